/- The reference's Compare and Row of what is the same. TableOwn. -/
import Derived.Test.YtffpmmphpdkkbaaGreatMTG
import Derived.Test.YtffpmmphpdkkbaaGreatMPar
import Derived.Test.YtffpmmphpdkkbaaGreatMTT
namespace Go.Proofs.YtffpmmphpdkkbaaGreat
open Go Go.RowKit Go.Proofs Co Co.S
set_option maxRecDepth 100000 in
set_option maxHeartbeats 1000000 in
theorem cmp_same (k n1 : Int) (s : ByteArray) (w : World) : Calls Tryz.prog 54 #[(Value.agg #[Value.int .i64 (k), Value.int .i64 (n1), Value.string (s)]), (Value.agg #[Value.int .i64 (k), Value.int .i64 (n1), Value.string (s)])] w fun e w' => e = .returned (.int .i64 0) ∧ Below w.heap.size w w' := by
  have hb1 := below_alloc w (.cells #[.int .i64 k, .int .i64 n1, .string s] 53)
  have hb2 := below_on hb1 (below_alloc (w.alloc (.cells #[.int .i64 k, .int .i64 n1, .string s] 53)) (.cells #[.int .i64 k, .int .i64 n1, .string s] 53))
  have HB := Lib.hid hb2
  have hbl := bl_self s.toList
  clear hb1 hb2
  go_enter Tryz.func54, Tryz.ntmps54
  go_wp2_with fail
  go_ret
  exact ⟨rfl, HB.out⟩
set_option maxRecDepth 100000 in
set_option maxHeartbeats 2000000 in
theorem rrow_same {S1 S2 : Nat → Prop} {v1 v2 : Value} {l : List T3} {W : World} (h1 : InV S1 W v1 l) (h2 : InV S2 W v2 l) : Calls Tryz.prog 25 #[v1, v2] W fun e w' => e = .returned (.int .i64 0) ∧ Below W.heap.size W w' := by
  obtain ⟨p1, c1, rfl, _, m1⟩ := h1.slice
  obtain ⟨p2, c2, rfl, _, m2⟩ := h2.slice
  obtain ⟨n, hn⟩ : ∃ n, l.length = n := ⟨_, rfl⟩
  have hn' : (n : Int) ≤ 9223372036854775807 := by unfold maxLen at m1; omega
  have H1 := Lib.hid h1
  have H2 := Lib.hid h2
  have HN := Lib.hid hn
  rw [hn]
  clear h1 h2 m1 m2 hn
  go_enter Tryz.func25, Tryz.ntmps25
  go_upto_block 0 with fail
  go_cut [] from 200 to 200 (fun w => Below W.heap.size W w)
  case first =>
    go_wp2_with fail
    go_loopg [5] (n + 1) (fun gh jv w => ∃ (j : Nat), jv = .int .i64 (j : Int) ∧ j ≤ n ∧ n + 1 ≤ j + gh ∧ Below W.heap.size W w)
    case atStart => exact ⟨0, rfl, Nat.zero_le _, by omega, Below.refl _ _⟩
    case round =>
      obtain ⟨j, rfl, hj, hg, hB⟩ := hrel
      by_cases hlt : j < n
      · have hjl : j < l.length := by rw [HN.out]; exact hlt
        have hji : (j : Int) < (n : Int) := by omega
        obtain ⟨b1, o1, rfl, hb1, _⟩ := H1.out.val hjl
        obtain ⟨b2, o2, rfl, hb2, _⟩ := H2.out.val hjl
        obtain ⟨u, hu⟩ : ∃ u, l[j] = u := ⟨_, rfl⟩
        have HV : Hid (∀ w, Below W.heap.size W w → (w.cell? ⟨b1, o1 + j * 3, none⟩ = some (.int .i64 u.1) ∧ w.cell? ⟨b1, o1 + j * 3 + 1, none⟩ = some (.int .i64 u.2.1) ∧ w.cell? ⟨b1, o1 + j * 3 + 2, none⟩ = some (.string u.2.2)) ∧
            (w.cell? ⟨b2, o2 + j * 3, none⟩ = some (.int .i64 u.1) ∧ w.cell? ⟨b2, o2 + j * 3 + 1, none⟩ = some (.int .i64 u.2.1) ∧ w.cell? ⟨b2, o2 + j * 3 + 2, none⟩ = some (.string u.2.2))) := Lib.hid (fun w hb => by
          obtain ⟨b1', o1', e1, _, r1⟩ := (H1.out.later hb).val hjl
          obtain ⟨b2', o2', e2, _, r2⟩ := (H2.out.later hb).val hjl
          cases e1; cases e2
          rw [← hu]
          exact ⟨r1, r2⟩)
        have hcmp := fun w => cmp_same u.1 u.2.1 u.2.2 w
        have HB := Lib.hid hB
        clear hB hu hb1 hb2
        go_upto_region 4 with fail
        refine Par.wp_region_par 8 [.slice (some ⟨b1, o1, none⟩) n c1, (Value.int .i64 ((j : Int))), (Value.pointer (some ⟨b1, o1 + j * 3, none⟩)), (Value.agg #[Value.int .i64 (u.1), Value.int .i64 (u.2.1), Value.string (u.2.2)]), .slice (some ⟨b2, o2, none⟩) n c2, (Value.int .i64 ((j : Int))), (Value.pointer (some ⟨b2, o2 + j * 3, none⟩)), (Value.agg #[Value.int .i64 (u.1), Value.int .i64 (u.2.1), Value.string (u.2.2)])] (fun w => Below W.heap.size W w) ?A1 ?hm1 ?hB1 ?hA1 (HB.out.drew) ?hop1 ?hT1
        case hm1 => kernel_rfl
        case hB1 => kernel_rfl
        case hA1 =>
          simp only [Par.putA, Par.dstAt, Act.put, List.getElem?_toArray, List.getElem?_cons_zero, List.getElem?_cons_succ, Option.bind_some, List.setIfInBounds_toArray, List.set_cons_zero, List.set_cons_succ, List.getD_cons_zero, List.getD_cons_succ]
          rfl
        case hop1 =>
          simp only [List.take_succ_cons, List.take_zero, Par.GiveAll, and_true]
          refine ⟨fun w' hR => ?_, fun w' hR => ?_, fun w' hR => ?_, fun w' hR => ?_, fun w' hR => ?_, fun w' hR => ?_, fun w' hR => ?_, fun w' hR => ?_⟩
          · have HR := Lib.hid hR
            clear hR
            simp only [Par.Gives]
            go_simp
            all_goals exact HR.out
          · have HR := Lib.hid hR
            clear hR
            simp only [Par.Gives]
            go_simp
            all_goals exact HR.out
          · have HR := Lib.hid hR
            clear hR
            simp only [Par.Gives]
            go_simp
            all_goals exact HR.out
          · have HR := Lib.hid hR
            have x0 := (HV.out w' hR).1.1
            have x1 := (HV.out w' hR).1.2.1
            have x2 := (HV.out w' hR).1.2.2
            clear hR
            simp only [Par.Gives]
            go_simp
            all_goals exact HR.out
          · have HR := Lib.hid hR
            clear hR
            simp only [Par.Gives]
            go_simp
            all_goals exact HR.out
          · have HR := Lib.hid hR
            clear hR
            simp only [Par.Gives]
            go_simp
            all_goals exact HR.out
          · have HR := Lib.hid hR
            clear hR
            simp only [Par.Gives]
            go_simp
            all_goals exact HR.out
          · have HR := Lib.hid hR
            have x0 := (HV.out w' hR).2.1
            have x1 := (HV.out w' hR).2.2.1
            have x2 := (HV.out w' hR).2.2.2
            clear hR
            simp only [Par.Gives]
            go_simp
            all_goals exact HR.out
        case hT1 =>
          intro w' hR
          simp only [List.drop_succ_cons, List.drop_zero]
          have HR := Lib.hid hR
          have hcmp := hcmp w'
          clear hR
          go_wp2_with (go_at_call 54; (with_reducible refine hcmp.mono ?_); rintro e w4 ⟨rfl, hb4⟩; have H4 := Lib.hid (HR.out.trans (hb4.mono HR.out.size)); clear hcmp hb4)
          go_roundg (n - j)
          case measure => omega
          case rel => exact ⟨j + 1, rfl, by omega, by omega, H4.out⟩
      · obtain rfl : j = n := by omega
        go_wp2_with fail
        go_meet
        exact hB
  case rest =>
    have HB0 := Lib.hid hcut
    go_wp2_with fail
    go_ret
    exact ⟨rfl, HB0.out⟩
end Go.Proofs.YtffpmmphpdkkbaaGreat
namespace Go.Proofs.YtffpmmphpdkkbaaGreat
open Go Go.RowKit Go.Proofs Co Co.S
theorem one_cells3 (l : List T3) : ∀ u ∈ cells3 l, u.oneCell' = true := by
  intro u hu
  unfold cells3 at hu
  rw [List.mem_flatMap] at hu
  obtain ⟨x, _, hx⟩ := hu
  rcases List.mem_cons.1 hx with rfl | hx
  · rfl
  rcases List.mem_cons.1 hx with rfl | hx
  · rfl
  · rw [List.mem_singleton.1 hx]; rfl
/-- A row of values copied. -/
theorem app_vals {S : Nat → Prop} {y : World} {v : Value} {l : List T3} (h : InV S y v l) (hl : l.length ≤ 1000) (h0 : 0 < l.length) : ∃ g cap w', (Builtin.append_ #[40, 40] 40 #[.slice none 0 0, v]).run Tryz.prog y = .ok (.slice (some ⟨g, 0, none⟩) l.length cap) w' ∧
    HRow w' y.heap.size 53 3 (.slice (some ⟨g, 0, none⟩) l.length cap) l.length (cells3 l) ∧ Below y.heap.size y w' := by
  obtain ⟨p, cap, rfl, _, _, h4⟩ := h
  obtain ⟨b, off, rfl, hb2, _, hcell⟩ := h4 h0
  obtain ⟨i0, hi0, hz0, hz1, hz2⟩ := info_parts info28
  obtain ⟨g, cap', w', h1, h2, h3, h4⟩ := run_append_has (P := Tryz.prog) y y.heap.size 40 40 53 i0 _ 3 32 Tryz.underlying40 hi0 hz0 hz1 hz2 rfl (by decide) (HRow.nil (w := y) (base := y.heap.size)) ⟨b, off, none⟩ l.length cap (cells3 l) (cells3_len l) (fun j u hj => by
    rw [Addr.add_lit]; exact hcell j u hj) (one_cells3 l) h0 (by unfold maxLen; omega) (by omega) (Nat.le_refl _)
  rw [Nat.zero_add, List.nil_append] at *
  exact ⟨g, cap', w', h1, h2, h3.os, h3.tape, h3.output, h3.size, fun q hq => h3.block q hq (by simp [Value.ownBlock])⟩
theorem ok_row (id : Int) (c : ByteArray) : okVals tShop (rowL id c) = mayV 2 0 c.data.toList := by
  have h : okVals tShop (rowL id c) = (true && ((mayV 2 0 c.data.toList && true) && (true && (true && true)))) := rfl
  rw [h]; simp
theorem ins_row (id : Int) (c : ByteArray) : insE tShop (rowL id c) = if mayV 2 0 c.data.toList = true then 0 else 4 := by
  rw [← ok_row id c]; rfl
theorem small_rowc (id : Int) (c : ByteArray) (h : c.size ≤ 12) : ∀ x ∈ rowL id c, x.2.2.size ≤ maxLen := small_row (fun x hx => by
  rcases List.mem_cons.1 hx with rfl | hx
  · show e0.size ≤ 12; decide
  rcases List.mem_cons.1 hx with rfl | hx
  · exact h
  rcases List.mem_cons.1 hx with rfl | hx
  · decide
  · rw [List.mem_singleton.1 hx]; decide)
abbrev bspoilt : ByteArray := ⟨#[115, 112, 111, 105, 108, 116]⟩
set_option maxRecDepth 100000 in
set_option maxHeartbeats 8000000 in
theorem own_law (id : Int) (city : ByteArray) (W : World) (hs : city.size ≤ maxLen) : Calls Tryz.prog 4 #[.int .i64 id, .string city] W fun e w' => e = .returned (.bool true) ∧ Below W.heap.size W w' := by
  have hbeg := begun_any W
  have hcut := fun y => cut_any city 12 y hs (by decide) (by decide)
  obtain ⟨c, hc⟩ : ∃ c, cutB (12 : Int).toNat city = c := ⟨_, rfl⟩
  have hc12 : c.size ≤ 12 := by rw [← hc]; exact cutB_le 12 city
  simp only [hc] at hcut
  have hrow := fun y => row_any id c y
  clear hc hs
  go_enter Tryz.func4, Tryz.ntmps4
  go_upto_region 6 with (first
    | (go_at_call 7; (with_reducible refine hbeg.mono ?_); rintro e w1 ⟨rfl, hb1⟩; have B1 := Lib.hid hb1; have hcut := hcut w1; have hrow := hrow w1; clear hbeg hb1)
    | (go_at_call 13; (with_reducible refine hcut.mono ?_); rintro e w1' ⟨rfl, hw⟩; subst hw; clear hcut)
    | (go_at_call 21; (with_reducible refine hrow.mono ?_); rintro e w2 ⟨rfl, hr, hb2⟩; have hshop := shop_any w2; have R2 := Lib.hid (And.intro hr (And.intro (below_on B1.out hb2) (HRow.lt hr _ rfl).2)); clear hrow hr hb2)
    | (go_at_call 9; (with_reducible refine hshop.mono ?_); rintro e w3 ⟨cv, dv, rfl, hT, hb3⟩; have hnew := tnew_any hT few_shop kd_shop; have R3 := Lib.hid (And.intro (R2.out.1.later hb3) (And.intro (below_on R2.out.2.1 hb3) (Nat.lt_of_lt_of_le R2.out.2.2 hb3.size))); clear hshop hT hb3 R2)
    | (go_at_call 8; (with_reducible refine hnew.mono ?_); rintro e w4 ⟨tb, lab, rfl, hT4, hlo, hb4⟩; have R4 := Lib.hid (And.intro (R3.out.1.later hb4) (And.intro (below_on R3.out.2.1 hb4) (And.intro hT4 (fun b hb => Nat.lt_of_lt_of_le R3.out.2.2 (hlo b hb))))); clear hnew hT4 hlo hb4 R3))
  have R4 : Hid (HRow w4 w1.heap.size 53 3 (.slice (some ⟨w1.heap.size, 0, none⟩) 4 4) 4 (cells3 (rowL id c)) ∧ Below W.heap.size W w4 ∧ Tb w4 tb tShop 0 [] lab ∧ ∀ b, lab b ≠ 0 → w1.heap.size < b) := R4
  have hWR : Hid (W.heap.size ≤ w1.heap.size) := Lib.hid B1.out.size
  obtain ⟨R, hR⟩ : ∃ R, w1.heap.size = R := ⟨_, rfl⟩
  rw [hR] at R4 hWR ⊢
  clear hR B1
  obtain ⟨r1, r2, r3, r4⟩ := R4.out
  cases hm : mayV 2 0 c.data.toList
  · have hins : Calls Tryz.prog 14 #[(Value.pointer (some ⟨tb, 0, none⟩)), .slice (some ⟨R, 0, none⟩) 4 4] w4 fun e w' => e = .returned (.tuple #[.int .i64 0, .int .i64 4]) ∧ Below w4.heap.size w4 w' := by
      have h := tb_ins_no r3 (InV.of_row r1 (l := rowL id c) rfl) (by decide) (by decide) (small_rowc id c hc12) (show (4 : Nat) ≤ 1000000 by decide) (by rw [ins_row, hm]; decide)
      rw [ins_row, hm] at h
      exact h
    have hmay := fun y => refMay_any 2 0 c y (by unfold maxLen; omega)
    simp only [hm] at hmay
    clear r1 r2 r3 r4 hm
    go_wp2_with (first
      | (go_at_call 14; (with_reducible refine hins.mono ?_); rintro e w5 ⟨rfl, hb5⟩; have r5 := R4.out.1.later hb5; have x3 := r5.cell (j := 3) rfl; have x4 := r5.cell (j := 4) rfl; have x5 := r5.cell (j := 5) rfl; have xl := (HRow.lt r5 R rfl).2; have R5 := Lib.hid (below_on R4.out.2.1 hb5); have hmay := hmay w5; clear r5 hb5 hins)
      | (go_at_call 22; (with_reducible refine hmay.mono ?_); rintro e w6 ⟨rfl, hb6⟩; have R6 := Lib.hid (below_on R5.out hb6); clear hb6 hmay))
    go_ret
    exact ⟨rfl, R6.out⟩
  · have hins := tb_ins_yes r3 (InV.of_row r1 (l := rowL id c) rfl) (fun b hb => Classical.byContradiction fun hn => by
      cases hb
      exact absurd (r4 _ hn) (Nat.lt_irrefl _)) (by decide) (by decide) (small_rowc id c hc12) (show (4 : Nat) ≤ 1000000 by decide) (by rw [ins_row, hm]; rfl)
    have hins : Calls Tryz.prog 14 #[(Value.pointer (some ⟨tb, 0, none⟩)), .slice (some ⟨R, 0, none⟩) 4 4] w4 fun e w' => e = .returned (.tuple #[.int .i64 0, .int .i64 0]) ∧ ∃ lab', Tb w' tb tShop 1 [(0, rowL id c)] lab' ∧ Ext w4 lab lab' ∧ Tn (fun b => lab b ≠ 0) w4 w' := hins
    clear r1 r2 r3 r4 hm
    go_upto_region 9 with (go_at_call 14; (with_reducible refine hins.mono ?_); rintro e w5 ⟨rfl, lab5, hT5, he5, hn5⟩; have R5 := Lib.hid (And.intro hT5 (And.intro he5 hn5)); clear hT5 he5 hn5 hins)
    obtain ⟨r1, r2, r3, r4⟩ := R4.out
    have zR4 := (HRow.lt r1 R rfl).2
    have hlR : ∀ b, lab5 b ≠ 0 → R < b := fun b hb => by
      rcases Nat.lt_or_ge b w4.heap.size with h1 | h1
      · exact r4 b (by rw [← R5.out.2.1 b h1]; exact hb)
      · omega
    have hlR0 : lab5 R = 0 := Classical.byContradiction fun h => absurd (hlR R h) (Nat.lt_irrefl _)
    have hn5 := R5.out.2.2
    have r5 := r1.of (w' := w5) (fun k hk => by cases hk; exact hn5.chg.block R zR4 (fun h => absurd (r4 R h) (Nat.lt_irrefl _)))
    have hb5 : Below W.heap.size W w5 := r2.trans (hn5.chg.below r2.size (fun b hb h => by have := r4 b h; have := hWR.out; omega))
    obtain ⟨g1, k1, w6, hrun, hw6, hb6⟩ := app_vals (InV.of_row r5 (l := rowL id c) rfl) (show (4 : Nat) ≤ 1000 by decide) (Nat.succ_pos 3)
    have hw6 : HRow w6 w5.heap.size 53 3 (.slice (some ⟨g1, 0, none⟩) 4 k1) 4 (cells3 (rowL id c)) := hw6
    have r6 := r5.later hb6
    have x1 := r6.cell (j := 1) rfl
    have xf := r6.frozenAt 1
    have xl := (HRow.lt r6 R rfl).2
    have zR5 := (HRow.lt r5 R rfl).2
    have zg1 := (HRow.lt hw6 g1 rfl).1
    have R6 := Lib.hid (And.intro r6 (And.intro hw6 (And.intro (below_on hb5 hb6) (And.intro (R5.out.1.later hb6) (And.intro hlR (And.intro hlR0 (And.intro zR5 zg1)))))))
    clear r1 r2 r3 r4 zR4 hlR hlR0 hn5 r5 hb5 hw6 hb6 r6 zR5 zg1
    go_upto_region 11 with (at_builtin; refine wpList_append_run rfl (.const (.slice none 0 0)) (.tmp 43) 40 rfl rfl rfl hrun ?_)
    obtain ⟨r6, q1, q2, q3, q4, q5, q6, q7⟩ := R6.out
    have hv := r6.stored 1 (.int .i64 (wrap64 (id + 1)))
    have htn : Tn (fun b => b = R) w6 (w6.setCell ⟨R, 1, none⟩ (.int .i64 (wrap64 (id + 1)))) := Tn.of_chg ((Chg.refl (fun b => b = R) w6).setCell (p := ⟨R, 1, none⟩) (fun _ => rfl) _) (fun b _ hb => .inl (by
      obtain ⟨_, cur, h1⟩ := r6.block R rfl
      rw [hb]; exact ⟨cur, 53, h1, rfl⟩))
    generalize w6.setCell ⟨R, 1, none⟩ (.int .i64 (wrap64 (id + 1))) = w7 at htn hv ⊢
    have zRw := hWR.out
    have T7 : Tb w7 tb tShop 1 [(0, rowL id c)] lab5 := q3.tn htn (fun b hb => hb ▸ q5)
    have hw7 := q1.of (w' := w7) (fun k hk => htn.chg.block k (HRow.lt q1 k hk).2 (fun e => by cases hk; have e' : g1 = R := e; omega))
    have hb7 : Below W.heap.size W w7 := q2.trans (htn.chg.below q2.size (fun b hb e => by omega))
    have hrow7 : Calls Tryz.prog 23 #[(Value.pointer (some ⟨tb, 0, none⟩)), .int .i64 0] w7 fun e w' => ∃ g c', e = .returned (.tuple #[.slice (some ⟨g, 0, none⟩) 4 c', .bool true]) ∧ w7.heap.size ≤ g ∧ HRow w' w7.heap.size 53 3 (.slice (some ⟨g, 0, none⟩) 4 c') 4 (cells3 (rowL id c)) ∧ Below w7.heap.size w7 w' := tb_row_yes T7 (a := (0, rowL id c)) (by simp) (by decide) (by decide)
    have R7 := Lib.hid (And.intro T7 (And.intro hw7 hb7))
    clear r6 q1 q2 q3 q4 q5 q6 q7 hv htn T7 hw7 hb7 x1 xf xl hrun
    go_upto_region 15 with (go_at_call 23; (with_reducible refine hrow7.mono ?_); rintro e w8 ⟨g2, k2, rfl, hg2, hr8, hb8⟩; have x5 := hr8.cell (j := 5) rfl; have xf := hr8.frozenAt 5; have xl := (HRow.lt hr8 g2 rfl).2; have R8 := Lib.hid (And.intro hr8 (And.intro hg2 hb8)); clear hr8 hg2 hb8 hrow7)
    obtain ⟨r8, q1, q2⟩ := R8.out
    obtain ⟨T7, hw7, hb7⟩ := R7.out
    have htn : Tn (fun b => b = g2) w8 (w8.setCell ⟨g2, 5, none⟩ (.string bspoilt)) := Tn.of_chg ((Chg.refl (fun b => b = g2) w8).setCell (p := ⟨g2, 5, none⟩) (fun _ => rfl) _) (fun b _ hb => .inl (by
      obtain ⟨_, cur, h1⟩ := r8.block g2 rfl
      rw [hb]; exact ⟨cur, 53, h1, rfl⟩))
    generalize w8.setCell ⟨g2, 5, none⟩ (.string bspoilt) = w9 at htn ⊢
    have T9 : Tb w9 tb tShop 1 [(0, rowL id c)] lab5 := (T7.later q2).tn htn (fun b hb => Classical.byContradiction fun hn => by have := T7.lt b hn; omega)
    have hw8 := hw7.later q2
    have hw9 := hw8.of (w' := w9) (fun k hk => htn.chg.block k (HRow.lt hw8 k hk).2 (fun e => by have := (HRow.lt hw7 k hk).2; omega))
    have hb9 : Below W.heap.size W w9 := (below_on hb7 q2).trans (htn.chg.below (below_on hb7 q2).size (fun b hb e => by have := hb7.size; omega))
    have hform := tb_form T9 few_shop
    have R9 := Lib.hid (And.intro T9 (And.intro hw9 hb9))
    clear r8 q1 q2 T7 hw7 hb7 htn T9 hw8 hw9 hb9 x5 xf xl R8 R7
    go_upto_region 16 with (go_at_call 24; (with_reducible refine hform.mono ?_); rintro e w10 ⟨p1, c1, p2, c2, ps, rfl, hO, hb10⟩; have R10 := Lib.hid (And.intro hO hb10); clear hO hb10 hform)
    obtain ⟨hO, hb10⟩ := R10.out
    obtain ⟨g3, k3, e3, _, _⟩ := hO.c.slice (by decide)
    cases e3
    have hb11 := below_alloc w10 (.cells #[.string tShop.nm, .slice (some ⟨g3, 0, none⟩) tShop.cols.length c1, .string tShop.key, .slice p2 tShop.deps.length c2] 29)
    have hF := heap_alloc_new w10 (.cells #[.string tShop.nm, .slice (some ⟨g3, 0, none⟩) tShop.cols.length c1, .string tShop.key, .slice p2 tShop.deps.length c2] 29)
    have hC := hO.c.later hb11
    have z3 := (HRow.lt hO.c g3 rfl)
    have hb9 := below_on hb10 hb11
    have hxs : (cellsC tShop.cols).length = 16 := rfl
    generalize cellsC tShop.cols = xs0 at hC hxs
    generalize w10.alloc (.cells #[.string tShop.nm, .slice (some ⟨g3, 0, none⟩) tShop.cols.length c1, .string tShop.key, .slice p2 tShop.deps.length c2] 29) = w11 at hF hC hb9 ⊢
    have hF1 : w11.cell? ⟨w10.heap.size, 1, none⟩ = some (.slice (some ⟨g3, 0, none⟩) 4 c1) := nd_cell hF 1
    have hC : HRow w11 w9.heap.size 62 4 (.slice (some ⟨g3, 0, none⟩) 4 c1) 4 xs0 := hC
    obtain ⟨F, hFe⟩ : ∃ F, w10.heap.size = F := ⟨_, rfl⟩
    rw [hFe] at hF hF1 z3 ⊢
    have hF1 : w11.cell? ⟨F, 1, none⟩ = some (.slice (some ⟨g3, 0, none⟩) 4 c1) := hF1
    have zF := lt_of_heap hF
    have R11 := Lib.hid (And.intro hC (And.intro hxs (And.intro hb9 (And.intro hF1 (And.intro z3 zF)))))
    clear hO hb10 hb11 hF hC hb9 hFe z3 R10
    go_upto_block 0 with fail
    go_cut [] from 200 to 200 (fun w => Below w9.heap.size w9 w)
    case first =>
      clear hF1 zF
      go_wp2_with fail
      go_loopg [73] 5 (fun gh jv w => ∃ (j : Nat) (xs : List Value), jv = .int .i64 (j : Int) ∧ j ≤ 4 ∧ 5 ≤ j + gh ∧ HRow w w9.heap.size 62 4 (.slice (some ⟨g3, 0, none⟩) 4 c1) 4 xs ∧ xs.length = 16 ∧ Below w9.heap.size w9 w ∧ w.cell? ⟨F, 1, none⟩ = some (.slice (some ⟨g3, 0, none⟩) 4 c1) ∧ F < w.heap.size)
      case atStart => exact ⟨0, xs0, rfl, Nat.zero_le _, Nat.le_refl _, R11.out.1, R11.out.2.1, R11.out.2.2.1, R11.out.2.2.2.1, R11.out.2.2.2.2.2⟩
      case round =>
        obtain ⟨j, xs, rfl, hj, hg, hC, hx, hB, hF1, hFz⟩ := hrel
        by_cases hlt : j < 4
        · have hji : (j : Int) < 4 := by omega
          have hxj : j * 4 < xs.length := by omega
          have x1 := hC.cell (j := j * 4) (List.getElem?_eq_getElem hxj)
          have xf := hC.frozenAt (j * 4)
          have xl := (HRow.lt hC g3 rfl).2
          have HC := Lib.hid (And.intro hC (And.intro hx (And.intro hB (And.intro hF1 hFz))))
          generalize xs[j * 4] = u at x1
          clear hC hx hB hxj
          go_wp2_with fail
          go_roundg (4 - j)
          case measure => omega
          case rel =>
            obtain ⟨hC, hx, hB, hF1, hFz⟩ := HC.out
            have hst := hC.stored (j * 4) (.string bspoilt)
            have zz := R11.out.2.2.2.2.1
            refine ⟨j + 1, xs.set (j * 4) (.string bspoilt), rfl, by omega, by omega, hst.1, by rw [List.length_set]; exact hx, hB.trans ⟨rfl, rfl, rfl, by simp, fun b hb => heap_setCell_other _ ⟨g3, j * 4, none⟩ b _ (by show b ≠ g3; omega)⟩, (World.cell?_of_block (w := wr) (heap_setCell_other _ ⟨g3, j * 4, none⟩ F _ (by show F ≠ g3; omega))).trans hF1, by simpa using hFz⟩
        · obtain rfl : j = 4 := by omega
          go_wp2_with fail
          go_meet
          exact hB
    case rest =>
      obtain ⟨T9, hw9, hb9⟩ := R9.out
      have T12 := T9.later hcut
      have hw12 := hw9.later hcut
      have hbc : Below W.heap.size W wc := below_on hb9 hcut
      have hrow12 : Calls Tryz.prog 23 #[(Value.pointer (some ⟨tb, 0, none⟩)), .int .i64 0] wc fun e w' => ∃ g c', e = .returned (.tuple #[.slice (some ⟨g, 0, none⟩) 4 c', .bool true]) ∧ wc.heap.size ≤ g ∧ HRow w' wc.heap.size 53 3 (.slice (some ⟨g, 0, none⟩) 4 c') 4 (cells3 (rowL id c)) ∧ Below wc.heap.size wc w' := tb_row_yes T12 (a := (0, rowL id c)) (by simp) (by decide) (by decide)
      have R12 := Lib.hid (And.intro T12 (And.intro hw12 hbc))
      clear T9 hw9 hb9 T12 hw12 hbc R9 R11 hcut hF1 zF
      go_wp2_with (first
        | (go_at_call 23; (with_reducible refine hrow12.mono ?_); rintro e w13 ⟨g4, k4, rfl, _, hr13, hb13⟩; have hrr := rrow_same (InV.of_row hr13 (l := rowL id c) rfl) (InV.of_row (R12.out.2.1.later hb13) (l := rowL id c) rfl); have R13 := Lib.hid (And.intro (R12.out.1.later hb13) (below_on R12.out.2.2 hb13)); clear hrow12 hr13 hb13 R12)
        | (go_at_call 25; (with_reducible refine hrr.mono ?_); rintro e w14 ⟨rfl, hb14⟩; have hform := tb_form (R13.out.1.later hb14) few_shop; have R14 := Lib.hid (below_on R13.out.2 hb14); clear hrr hb14 R13)
        | (go_at_call 24; (with_reducible refine hform.mono ?_); rintro e w15 ⟨p5, c5, p6, c6, ps5, rfl, hO5, hb15⟩; have hshop := shop_any w15; have R15 := Lib.hid (And.intro hO5 (below_on R14.out hb15)); clear hform hO5 hb15 R14)
        | (go_at_call 9; (with_reducible refine hshop.mono ?_); rintro e w16 ⟨cv6, dv6, rfl, hT6, hb16⟩; have heq := eqTable_same (R15.out.1.later hb16).rd hT6; have R16 := Lib.hid (below_on R15.out.2 hb16); clear hshop hT6 hb16 R15)
        | (go_at_call 26; (with_reducible refine heq.mono ?_); rintro e w17 ⟨rfl, hb17⟩; have R17 := Lib.hid (below_on R16.out hb17); clear heq hb17 R16))
      go_ret
      exact ⟨rfl, R17.out⟩
end Go.Proofs.YtffpmmphpdkkbaaGreat
