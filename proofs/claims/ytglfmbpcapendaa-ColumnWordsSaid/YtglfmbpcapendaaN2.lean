/- ColumnWords: the walk. -/
import Derived.Test.YtglfmbpcapendaaN2b
import Derived.Deep.CutBlock
import Derived.Deep.CutRange
namespace Go.Proofs.Ytglfmbpcapendaa.S
open Go Go.RowKit Go.Shelf Go.Proofs Go.Proofs.Ytglfmbpcapendaa

set_option maxRecDepth 100000 in
set_option maxHeartbeats 4000000 in
theorem words_walk (p : Option Addr) (xs : List Int) (n1 c1 : Nat) (q : Option Addr) (ys : List Int) (n2 c2 : Nat) (W : World) (hl0 : xs.length = n1) (hP : ParK W p xs) (hl1 : ys.length = n2) (hQ : ParK W q ys) :
    Calls Try.prog 5 #[.slice p n1 c1, .slice q n2 c2] W fun e W' => e = .returned (.bool true) ∧ Below W.heap.size W W' := by
  have hbeg := begun_any W
  have hnew := fun y => col_new 2 (.inr rfl) y
  go_enter Try.func5, Try.ntmps5
  go_upto_block 0 with (first
    | (go_at_call 6; (with_reducible refine hbeg.mono ?_); rintro e x0 ⟨rfl, b0⟩; clear hbeg; obtain ⟨cb, hcb⟩ : ∃ cb, x0.heap.size = cb := ⟨_, rfl⟩; have hnew := hnew x0; rw [hcb] at hnew)
    | (go_at_call 7; (with_reducible refine hnew.mono ?_); rintro e x1 ⟨rfl, k1, b1⟩; clear hnew))
  have hWc : W.heap.size ≤ cb := by have := b0.size; omega
  have HZ := Lib.hid (And.intro k1 (And.intro (b0.trans (b1.mono hWc)) hcb))
  clear k1 b0 b1 hcb
  go_cut [7] from 200 to 200 (fun nv w => ∃ (now : List Nat) (v : Value), now.length ≤ 30 ∧ (∀ k ∈ now, k < 8) ∧ Col cb 2 (now.map wv) v w ∧ HRow w (cb + 1) 3 1 nv now.length (now.map nI) ∧ Apart v nv ∧ Below W.heap.size W w)
  case first =>
    go_wp2_with fail
    go_loopg [7, 9] 31 (fun gh nv iv w => ∃ (now : List Nat) (v : Value), now.length ≤ 30 ∧ now.length ≤ n1 ∧ 31 ≤ now.length + gh ∧ iv = .int .i64 (now.length : Int) ∧ (∀ k ∈ now, k < 8) ∧ Col cb 2 (now.map wv) v w ∧ HRow w (cb + 1) 3 1 nv now.length (now.map nI) ∧ Apart v nv ∧ Below W.heap.size W w)
    case atStart => exact ⟨[], _, Nat.zero_le _, Nat.zero_le _, Nat.le_refl _, rfl, fun k hk => by simp at hk, HZ.out.1, HRow.nil, Apart.nil _, HZ.out.2.1⟩
    case round =>
      obtain ⟨now, v, hn30, hnl, hng, rfl, hn8, hC, hR, hA, hB⟩ := hrel
      obtain ⟨i, hi⟩ : ∃ i, now.length = i := ⟨_, rfl⟩
      rw [hi] at hn30 hnl hng hR ⊢
      obtain ⟨pl, cl, rfl, hcl, hcm⟩ := hR.isslice
      by_cases hlt : i < n1 ∧ i < 30
      · obtain ⟨h1, h2⟩ := hlt
        have hd30 : (i : Int) < 30 := by omega
        obtain ⟨b, off, rfl, hbW, hc0⟩ := hP i (by omega)
        have hc1 : wr.cell? ⟨b, off + i, none⟩ = some (Value.int .i64 (xs[i])) := (World.cell?_of_block (w := W) (hB.block b hbW)).trans hc0
        generalize xs[i] = z at hc1
        obtain ⟨k, hk⟩ := Int.eq_ofNat_of_zero_le (mod_up z 8 (by omega)).1
        have hk8 : k < 8 := by have := (mod_up z 8 (by omega)).2.1; omega
        have hwr : (wrap64 (z.tmod 8 + 8)).tmod 8 = (k : Int) := by rw [Go.IntWalk.wrap64_in _ (by have := mod_up z 8 (by omega); omega), hk]
        have hwd := fun y => word_any k hk8 y
        have happ := fun y (hy : Col cb 2 (now.map wv) v y) => col_app hy (by rw [List.length_map]; omega) (wv k) (size_wv k) (inC_wv k hk8)
        have hai := fun y (hy : HRow y (cb + 1) 3 1 (.slice pl i cl) i (now.map nI)) (hs : cb + 1 ≤ y.heap.size) => app_int y (cb + 1) hy (by omega) hs k
        have HN := Lib.hid (And.intro hi (And.intro hn8 (And.intro hk8 (And.intro hA hB))))
        go_upto_region 11 with fail
        try rw [hwr]
        clear hc0 hk hwr hi hn8 hA hB
        obtain ⟨wk1, hwk⟩ : ∃ x, wv k = x := ⟨_, rfl⟩
        have HW := Lib.hid hwk
        rw [hwk] at happ
        simp only [hwk] at hwd
        clear hwk
        go_wp2_with (first
          | (go_at_call 17; (with_reducible refine (hwd _).mono ?_); rintro e y1 ⟨rfl, g1⟩; have d1 := hC.later g1; have r1 := hR.later g1; clear hwd)
          | (go_at_call 10; (with_reducible refine (happ _ d1).mono ?_); rintro e y2 ⟨rfl, v2, d2, o2, g2⟩; have r2 := row_beside r1 HN.out.2.2.2.1 g2; obtain ⟨g, cap', y3, hrun, r3, g3, o3⟩ := hai y2 r2 d2.lt; clear happ hai)
          | (at_builtin; refine wpList_append_run rfl (.tmp 45) (.tmp 47) 39 rfl rfl rfl hrun ?_))
        go_roundg (30 - i)
        case measure => omega
        case rel =>
          obtain ⟨hi, hn8, hk8, hA, hB⟩ := HN.out
          have hA2 : Apart v2 (.slice pl i cl) := hA.left o2 (fun q hq => (r1.lt q hq).2)
          have hcb := hC.lt
          have hb3 : Below W.heap.size W y3 := ((hB.trans (g1.mono hB.size)).trans (d1.below g2 (Nat.le_trans hB.size g1.size) hWc)).trans (below_row r2 g3 (by omega) (Nat.le_trans hWc (Nat.le_of_lt d2.lt)))
          refine ⟨now ++ [k], v2, by simp; omega, by simp; omega, by simp; omega, by simp [hi], fun j hj => ?_, ?_, by simpa [hi] using r3, hA2.right (w := y2) (fun q hq => by cases hq; exact o3) (fun q hq => (d2.row.lt q hq).2), hb3⟩
          · rcases List.mem_append.1 hj with hj | hj
            · exact hn8 j hj
            · rw [List.mem_singleton.1 hj]; exact hk8
          · rw [List.map_append, List.map_cons, List.map_nil, HW.out]
            exact d2.beside r2 (by decide) hA2 (fun k hk => hk) g3
      · have hex : ¬ i < n1 ∨ (i < n1 ∧ ¬ i < 30) := by omega
        have HI := Lib.hid (And.intro hn8 (And.intro hC (And.intro hR (And.intro hA hB))))
        clear hlt hP hn8 hC hR hA hB HZ hnew
        rcases hex with hex | ⟨hex, hex'⟩
        all_goals
          go_wp2_with fail
          go_meet
          exact ⟨now, v, by omega, HI.out.1, HI.out.2.1, by rw [hi]; exact HI.out.2.2.1, HI.out.2.2.2⟩
  case rest =>
    clear HZ hnew hP hl0
    obtain ⟨now, v, hn30, hn8, hC, hR, hA, hB⟩ := hcut
    obtain ⟨i, hi⟩ : ∃ i, now.length = i := ⟨_, rfl⟩
    rw [hi] at hn30 hR
    obtain ⟨pl, cl, rfl, hcl, hcm⟩ := hR.isslice
    have HI := Lib.hid (show now.length = i ∧ (∀ k ∈ now, k < 8) ∧ Col cb 2 (now.map wv) v wc ∧ HRow wc (cb + 1) 3 1 (.slice pl i cl) i (now.map nI) ∧ Apart v (.slice pl i cl) ∧ Below W.heap.size W wc from ⟨hi, hn8, hC, hR, hA, hB⟩)
    clear hn8 hC hR hA hB hi
    go_upto_block 2 with fail
    go_cut [] from 200 to 200 (fun w => ∃ (now : List Nat) (v : Value), now.length = i ∧ (∀ k ∈ now, k < 8) ∧ Col cb 2 (now.map wv) v w ∧ HRow w (cb + 1) 3 1 (.slice pl i cl) i (now.map nI) ∧ Apart v (.slice pl i cl) ∧ Below W.heap.size W w)
    case first =>
      go_wp2_with fail
      go_loopg [11] 31 (fun gh jv w => ∃ (now : List Nat) (v : Value) (j : Nat), j ≤ 30 ∧ 31 ≤ j + gh ∧ jv = .int .i64 (j : Int) ∧ now.length = i ∧ (∀ k ∈ now, k < 8) ∧ Col cb 2 (now.map wv) v w ∧ HRow w (cb + 1) 3 1 (.slice pl i cl) i (now.map nI) ∧ Apart v (.slice pl i cl) ∧ Below W.heap.size W w)
      case atStart => exact ⟨now, v, 0, Nat.zero_le _, Nat.le_refl _, rfl, HI.out⟩
      case round =>
        clear HI
        obtain ⟨now, v, j, hj30, hjg, rfl, hi, hn8, hC, hR, hA, hB⟩ := hrel
        by_cases hlt : j < n2 ∧ j < 30 ∧ 0 < i
        · obtain ⟨h1, h2, h3⟩ := hlt
          have hd30 : (j : Int) < 30 := by omega
          have hd0 : (0 : Int) < (i : Int) := by omega
          have hne : ((i : Int) == 0) = false := by simp; omega
          have hne' : (i : Int) ≠ 0 := by omega
          obtain ⟨b, off, rfl, hbW, hc0⟩ := hQ j (by omega)
          have hc1 : wr.cell? ⟨b, off + j, none⟩ = some (Value.int .i64 (ys[j])) := (World.cell?_of_block (w := W) (hB.block b hbW)).trans hc0
          generalize ys[j] = z at hc1
          have hbw : b < wr.heap.size := Nat.lt_of_lt_of_le hbW hB.size
          obtain ⟨a, ha⟩ := Int.eq_ofNat_of_zero_le (mod_up z (i : Int) (by omega)).1
          have hai : a < i := by have := (mod_up z (i : Int) (by omega)).2.1; omega
          have hwa : (wrap64 (z.tmod (i : Int) + (i : Int))).tmod (i : Int) = (a : Int) := by rw [Go.IntWalk.wrap64_in _ (by have := mod_up z (i : Int) (by omega); omega), ha]
          obtain ⟨k, hk⟩ := Int.eq_ofNat_of_zero_le (mod_up (wrap64 (z.tdiv 50)) 8 (by omega)).1
          have hk8 : k < 8 := by have := (mod_up (wrap64 (z.tdiv 50)) 8 (by omega)).2.1; omega
          have hwk : (wrap64 ((wrap64 (z.tdiv 50)).tmod 8 + 8)).tmod 8 = (k : Int) := by rw [Go.IntWalk.wrap64_in ((wrap64 (z.tdiv 50)).tmod 8 + 8) (by have := mod_up (wrap64 (z.tdiv 50)) 8 (by omega); omega), hk]
          go_upto_region 17 with fail
          go_quiet (fail)
          try rw [hwa, hwk]
          obtain ⟨g, cap, hpe, _, _⟩ := hR.slice h3
          cases hpe
          have hwd := fun y => word_any k hk8 y
          have hset := fun y (hy : Col cb 2 (now.map wv) v y) => col_set hy (by rw [List.length_map]; omega) a (by rw [List.length_map]; omega) (wv k) (size_wv k) (inC_wv k hk8)
          obtain ⟨x, hx⟩ : ∃ x, wv k = x := ⟨_, rfl⟩
          have HW := Lib.hid hx
          rw [hx] at hset
          simp only [hx] at hwd
          have hC := hC.later (below_drewN wr nq)
          have hR := hR.later (below_drewN wr nq)
          have hB := hB.trans ((below_drewN wr nq).mono hB.size)
          have hxs : ∃ u, (now.map nI)[a]? = some u := ⟨_, List.getElem?_eq_getElem (by rw [List.length_map]; omega)⟩
          have hi3 : (a : Int) < (i : Int) := by omega
          generalize wr.drewN nq = w0 at hC hR hB ⊢
          have HN := Lib.hid (And.intro hi (And.intro hn8 (And.intro hk8 (And.intro hA (And.intro hB (And.intro hai hxs))))))
          clear hx hc0 hk hwk ha hwa hi hn8 hk8 hA hB hxs
          go_wp2_with (first
            | (go_at_call 17; (with_reducible refine (hwd _).mono ?_); rintro e y1 ⟨rfl, g1⟩; have d1 := hC.later g1; have r1 := hR.later g1; clear hwd)
            | (go_at_call 11; (with_reducible refine (hset _ d1).mono ?_); rintro e y2 ⟨rfl, d2, g2⟩; have r2 := row_beside r1 HN.out.2.2.2.1 g2; obtain ⟨u0, hu0⟩ := HN.out.2.2.2.2.2.2; have s0 := r2.cell hu0; have f0 := r2.frozenAt a; have l2 := (r2.lt g rfl).2; clear hset))
          obtain ⟨r3, g3⟩ := r2.stored a (nI k)
          go_roundg (30 - j)
          case measure => omega
          case rel =>
            obtain ⟨hi, hn8, hk8, hA, hB, hai, hxs⟩ := HN.out
            have hb3 : Below W.heap.size W (y2.setCell ⟨g, a, none⟩ (nI k)) := ((hB.trans (g1.mono hB.size)).trans (d1.below g2 (Nat.le_trans hB.size g1.size) hWc)).trans (below_row r2 g3 (by omega) (Nat.le_trans hWc (Nat.le_of_lt d2.lt)))
            refine ⟨now.set a k, v, j + 1, by omega, by omega, by simp, by simp [hi], fun q hq => ?_, ?_, by rw [List.map_set]; exact r3, hA, hb3⟩
            · rcases List.mem_or_eq_of_mem_set hq with hq | hq
              · exact hn8 q hq
              · rw [hq]; exact hk8
            · rw [List.map_set, HW.out]
              exact d2.beside r2 (by decide) hA (fun k hk => hk) g3
        · have hex : ¬ j < n2 ∨ (j < n2 ∧ ¬ j < 30) ∨ (j < n2 ∧ j < 30 ∧ ¬ 0 < i) := by omega
          have HI := Lib.hid (And.intro hi (And.intro hn8 (And.intro hC (And.intro hR (And.intro hA hB)))))
          clear hlt hQ hn8 hC hR hA hB
          rcases hex with hex | ⟨hex, hex'⟩ | ⟨hex, hex', hex2⟩
          · go_wp2_with fail
            go_meet
            exact ⟨now, v, HI.out⟩
          · go_wp2_with fail
            go_meet
            exact ⟨now, v, HI.out⟩
          · have e30 : (j : Int) < 30 := by omega
            obtain rfl : i = 0 := by omega
            go_wp2_with fail
            go_meet
            exact ⟨now, v, HI.out⟩
    case rest =>
      clear HI hQ hl1
      obtain ⟨now, v, hi, hn8, hC, hR, hA, hB⟩ := hcut
      -- THE COUNT
      have hb0 := heap_alloc_new wc (.cells #[(Value.int .i64 (0)), (Value.int .i64 (0)), (Value.int .i64 (0)), (Value.int .i64 (0)), (Value.int .i64 (0)), (Value.int .i64 (0)), (Value.int .i64 (0)), (Value.int .i64 (0))] 42)
      have hbl := below_alloc wc (.cells #[(Value.int .i64 (0)), (Value.int .i64 (0)), (Value.int .i64 (0)), (Value.int .i64 (0)), (Value.int .i64 (0)), (Value.int .i64 (0)), (Value.int .i64 (0)), (Value.int .i64 (0))] 42)
      obtain ⟨hb, hhb⟩ : ∃ hb, wc.heap.size = hb := ⟨_, rfl⟩
      rw [hhb] at hb0 hbl
      have HI := Lib.hid (And.intro hi (And.intro hn8 (And.intro hC (And.intro hR (And.intro hA hB)))))
      have hnw : ∀ t, t < 8 → (wc.alloc (.cells #[(Value.int .i64 (0)), (Value.int .i64 (0)), (Value.int .i64 (0)), (Value.int .i64 (0)), (Value.int .i64 (0)), (Value.int .i64 (0)), (Value.int .i64 (0)), (Value.int .i64 (0))] 42)).cell? ⟨hb, t, none⟩ = some (Value.int .i64 ((([] : List Nat).count t : Int))) := fun t ht => by
        rw [nd_cell hb0 t]
        obtain rfl | rfl | rfl | rfl | rfl | rfl | rfl | rfl : t = 0 ∨ t = 1 ∨ t = 2 ∨ t = 3 ∨ t = 4 ∨ t = 5 ∨ t = 6 ∨ t = 7 := by omega
        all_goals rfl
      have hfz : ∀ t, (wc.alloc (.cells #[(Value.int .i64 (0)), (Value.int .i64 (0)), (Value.int .i64 (0)), (Value.int .i64 (0)), (Value.int .i64 (0)), (Value.int .i64 (0)), (Value.int .i64 (0)), (Value.int .i64 (0))] 42)).frozen? ⟨hb, t, none⟩ = false := fun t => frozen_of_row _ _ t _ _ hb0
      have HH := Lib.hid (And.intro hnw (And.intro hfz hbl))
      clear hnw hfz hbl hb0 hi hn8 hC hR hA hB
      go_wp2_with fail
      go_loopg [15] 31 (fun gh jv w => ∃ j : Nat, j ≤ i ∧ 31 ≤ j + gh ∧ jv = .int .i64 (j : Int) ∧ (∀ t, t < 8 → w.cell? ⟨hb, t, none⟩ = some (Value.int .i64 ((((now.take j).count t : Nat) : Int)))) ∧ (∀ t, w.frozen? ⟨hb, t, none⟩ = false) ∧ Below hb wc w)
      case atStart => exact ⟨0, Nat.zero_le _, Nat.le_refl _, rfl, HH.out⟩
      case round =>
        clear HH
        obtain ⟨j, hji, hjg, rfl, hcs, hfs, hbw⟩ := hrel
        obtain ⟨hi, hn8, hC, hR, hA, hB⟩ := HI.out
        by_cases hlt : j < i
        · obtain ⟨g, cap, hpe, _, _⟩ := hR.slice (by omega)
          cases hpe
          obtain ⟨k, hk⟩ : ∃ k, now[j]'(by omega) = k := ⟨_, rfl⟩
          have hk8 : k < 8 := hk ▸ hn8 _ (List.getElem_mem _)
          have hrc : wr.cell? ⟨g, j, none⟩ = some (Value.int .i64 ((k : Int))) := (hR.later (hhb.symm ▸ hbw)).cell (by rw [List.getElem?_map, List.getElem?_eq_getElem (by omega), hk]; rfl)
          have hck := hcs k hk8
          have hfk := hfs k
          have hle : (now.take j).count k ≤ 30 := Nat.le_trans List.count_le_length (by rw [List.length_take]; omega)
          have hcnt : ∀ t, (now.take (j + 1)).count t = (now.take j).count t + if k = t then 1 else 0 := fun t => by
            rw [List.take_succ_eq_append_getElem (by omega), List.count_append, hk, List.count_singleton]
            by_cases e : k = t
            · subst e; simp
            · simp [e]
          obtain ⟨c, hc⟩ : ∃ c, (now.take j).count k = c := ⟨_, rfl⟩
          rw [hc] at hck hle
          have hj3 : (j : Int) < (i : Int) := by omega
          have hk3 : (k : Int) < 8 := by omega
          have HC := Lib.hid (And.intro hcs (And.intro hfs (And.intro hbw (And.intro hcnt hc))))
          clear hcs hfs hbw hcnt hc hi hn8 hC hR hA hB hk
          go_wp2_with fail
          go_roundg (30 - j)
          case measure => omega
          case rel =>
            obtain ⟨hcs, hfs, hbw, hcnt, hc⟩ := HC.out
            refine ⟨j + 1, by omega, by omega, by simp, fun t ht => ?_, fun t => by rw [World.frozen?_setCell]; exact hfs t, hbw.setCell (Nat.le_refl _) _⟩
            rw [hcnt t]
            by_cases e : k = t
            · subst e
              rw [World.cell?_setCell_same _ _ _ hck, if_pos rfl, hc]
              simp
            · rw [World.cell?_setCell_other _ _ _ _ (fun h => e (by cases h; rfl)), hcs t ht, if_neg e]
              simp
        · obtain rfl : j = i := by omega
          replace hcs : ∀ t, t < 8 → wr.cell? ⟨hb, t, none⟩ = some (Value.int .i64 (((now.count t : Nat) : Int))) := fun t ht => by rw [hcs t ht, List.take_of_length_le (by omega)]
          have hC1 := hC.later (hhb.symm ▸ hbw)
          have hR1 := hR.later (hhb.symm ▸ hbw)
          have hB1 : Below W.heap.size W wr := hB.trans (hbw.mono (by rw [← hhb]; exact hB.size))
          have HF := Lib.hid hB1
          have hwords := fun y (hy : y = wr.drew) => col_words (hy ▸ hC1.later (Below.refl _ wr).drew : Col cb 2 (now.map wv) v y) ((dk now 8).map wk) (dk_nodup now) (dk_mem now hn8)
          have hnulls := fun y (hy : y = wr.drew) => col_nulls (hy ▸ hC1.later (Below.refl _ wr).drew : Col cb 2 (now.map wv) v y)
          have hlen := fun y (hy : y = wr.drew) => col_len (hy ▸ hC1.later (Below.refl _ wr).drew : Col cb 2 (now.map wv) v y)
          rw [nz_wv] at hnulls
          simp only [List.length_map, hi] at hwords hlen
          have HN := Lib.hid (And.intro hn8 (And.intro hC1 hR1))
          have c0 := hcs 0 (by omega)
          obtain ⟨z, hz⟩ : ∃ z : Int, ((now.count 0 : Nat) : Int) = z := ⟨_, rfl⟩
          rw [hz] at hnulls c0
          obtain ⟨m, hm⟩ : ∃ m : Int, ((dk now 8).length : Int) = m := ⟨_, rfl⟩
          simp only [hm] at hwords
          have HCS := Lib.hid (And.intro hcs hm)
          obtain ⟨w1, rfl⟩ : ∃ w1, w1 = wr := ⟨_, rfl⟩
          clear HI hn8 hC hR hA hB hC1 hR1 hB1 hbw hfs hz hcs hm hi
          go_wp2_with fail
          go_loopg [16, 17] 9 (fun gh mv kv w => ∃ k : Nat, 1 ≤ k ∧ k ≤ 8 ∧ 9 ≤ k + gh ∧ mv = .int .i64 (((dk now k).length : Nat) : Int) ∧ kv = .int .i64 (k : Int) ∧ w = w1)
          case atStart => exact ⟨1, by omega, by omega, by omega, by rw [dk_one]; rfl, rfl, rfl⟩
          case round =>
            obtain ⟨k, hk1, hk8, hkg, rfl, rfl, rfl⟩ := hrel
            by_cases hlt : k < 8
            · have hck := HCS.out.1 k hlt
              obtain ⟨c, hc⟩ : ∃ c : Int, ((now.count k : Nat) : Int) = c := ⟨_, rfl⟩
              rw [hc] at hck
              have hk3 : (k : Int) < 8 := by omega
              have hk0 : (0 : Int) ≤ (k : Int) := by omega
              have hdk := dk_succ now k hk1
              have hdl : (dk now k).length ≤ 8 := Nat.le_trans (List.length_filter_le _ _) (by rw [List.length_range]; omega)
              obtain ⟨d, hd⟩ : ∃ d, (dk now k).length = d := ⟨_, rfl⟩
              rw [hd] at hdk hdl ⊢
              have HD := Lib.hid (And.intro hdk hc)
              by_cases hpos : 0 < c
              · have e1 : decide (0 < c) = true := decide_eq_true hpos
                clear hdk hc hd
                go_wp2_with fail
                go_roundg (8 - k)
                case measure => omega
                case rel => exact ⟨k + 1, by omega, by omega, by omega, by rw [HD.out.1, if_pos (by have := HD.out.2; omega)]; first | rfl | simp, by simp, rfl⟩
              · have e1 : decide (0 < c) = false := decide_eq_false hpos
                clear hdk hc hd
                go_wp2_with fail
                go_roundg (8 - k)
                case measure => omega
                case rel => exact ⟨k + 1, by omega, by omega, by omega, by rw [HD.out.1, if_neg (by have := HD.out.2; omega)]; rfl, by simp, rfl⟩
            · obtain rfl : k = 8 := by omega
              have hm := HCS.out.2
              rw [hm]
              clear hm
              go_wp2_with fail
              refine Par.wp_region_par 19 [.pointer (some ⟨cb, 0, none⟩), .int .i64 (m), .int .i64 (m), .bool true, .bool true, .pointer (some ⟨cb, 0, none⟩), .int .i64 (z), .pointer (some ⟨hb, 0, none⟩), .int .i64 (z), .bool true, .bool true, .bool true, .pointer (some ⟨cb, 0, none⟩), .int .i64 ((j : Int)), .slice pl j cl, .int .i64 ((j : Int)), .bool true, .bool true, .bool true] (fun w => w = wr.drew) ?A1 ?hm1 ?hB1 ?hA1 rfl ?hop1 ?hT1
              case hm1 => kernel_rfl
              case hB1 => kernel_rfl
              case hA1 =>
                simp only [Par.putA, Par.dstAt, Act.put, List.getElem?_toArray, List.getElem?_cons_zero, List.getElem?_cons_succ, Option.bind_some, List.setIfInBounds_toArray, List.set_cons_zero, List.set_cons_succ, List.getD_cons_zero, List.getD_cons_succ]
                rfl
              case hop1 =>
                simp only [List.take_succ_cons, List.take_zero, Par.GiveAll, and_true]
                refine ⟨fun w' hR => ?_, fun w' hR => ?_, fun w' hR => ?_, fun w' hR => ?_, fun w' hR => ?_, fun w' hR => ?_, fun w' hR => ?_, fun w' hR => ?_, fun w' hR => ?_, fun w' hR => ?_, fun w' hR => ?_, fun w' hR => ?_, fun w' hR => ?_, fun w' hR => ?_, fun w' hR => ?_, fun w' hR => ?_, fun w' hR => ?_, fun w' hR => ?_, fun w' hR => ?_⟩
                · have HR := Lib.hid hR
                  clear hR
                  simp only [Par.Gives]
                  go_simp
                  all_goals exact HR.out
                · have HR := Lib.hid hR
                  clear hR
                  simp only [Par.Gives]
                  go_simp
                  exact (hwords w' HR.out).mono (fun e w'' ⟨he, hb⟩ => ⟨he, by rw [hb]; exact HR.out⟩)
                · have HR := Lib.hid hR
                  clear hR
                  simp only [Par.Gives]
                  go_simp
                  all_goals exact HR.out
                · have HR := Lib.hid hR
                  clear hR
                  simp only [Par.Gives]
                  go_simp
                  all_goals exact HR.out
                · have HR := Lib.hid hR
                  clear hR
                  simp only [Par.Gives]
                  go_simp
                  all_goals exact HR.out
                · have HR := Lib.hid hR
                  clear hR
                  simp only [Par.Gives]
                  go_simp
                  all_goals exact HR.out
                · have HR := Lib.hid hR
                  clear hR
                  simp only [Par.Gives]
                  go_simp
                  exact (hnulls w' HR.out).mono (fun e w'' ⟨he, hb⟩ => ⟨he, by rw [hb]; exact HR.out⟩)
                · have HR := Lib.hid hR
                  clear hR
                  simp only [Par.Gives]
                  go_simp
                  all_goals exact HR.out
                · have HR := Lib.hid hR
                  obtain rfl := hR
                  simp only [Par.Gives]
                  go_simp
                  all_goals exact HR.out
                · have HR := Lib.hid hR
                  clear hR
                  simp only [Par.Gives]
                  go_simp
                  all_goals exact HR.out
                · have HR := Lib.hid hR
                  clear hR
                  simp only [Par.Gives]
                  go_simp
                  all_goals exact HR.out
                · have HR := Lib.hid hR
                  clear hR
                  simp only [Par.Gives]
                  go_simp
                  all_goals exact HR.out
                · have HR := Lib.hid hR
                  clear hR
                  simp only [Par.Gives]
                  go_simp
                  all_goals exact HR.out
                · have HR := Lib.hid hR
                  clear hR
                  simp only [Par.Gives]
                  go_simp
                  exact (hlen w' HR.out).mono (fun e w'' ⟨he, hb⟩ => ⟨he, by rw [hb]; exact HR.out⟩)
                · have HR := Lib.hid hR
                  clear hR
                  simp only [Par.Gives]
                  go_simp
                  all_goals exact HR.out
                · have HR := Lib.hid hR
                  clear hR
                  simp only [Par.Gives]
                  go_simp
                  all_goals exact HR.out
                · have HR := Lib.hid hR
                  clear hR
                  simp only [Par.Gives]
                  go_simp
                  all_goals exact HR.out
                · have HR := Lib.hid hR
                  clear hR
                  simp only [Par.Gives]
                  go_simp
                  all_goals exact HR.out
                · have HR := Lib.hid hR
                  clear hR
                  simp only [Par.Gives]
                  go_simp
                  all_goals exact HR.out
              case hT1 =>
                intro w' hR
                simp only [List.drop_succ_cons, List.drop_zero]
                subst hR
                go_wp2_with fail
                go_ret
                exact ⟨rfl, HF.out.drew⟩
end Go.Proofs.Ytglfmbpcapendaa.S
