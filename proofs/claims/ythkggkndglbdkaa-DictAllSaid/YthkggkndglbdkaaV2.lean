import Derived.Test.YthkggkndglbdkaaV
import Derived.Deep.RegionLaw
import Derived.Laws.Cover1
namespace Go.Proofs.Ythkggkndglbdkaa.S
open Go Go.RowKit Go.Shelf Go.Proofs Go.Proofs.Ythkggkndglbdkaa
variable {M : Nat}

set_option maxRecDepth 100000 in
set_option maxHeartbeats 4000000 in
theorem words_any (xs : List (K M)) (p : Option Addr) (n cap : Nat) (W : World) (hn : xs.length = n) (h1000 : n ≤ 1000) (hP : Strs W p xs) :
    Calls Try.prog 11 #[.slice p n cap] W fun e w' => ∃ out : List (K M), SrtK out ∧ (∀ s, s ∈ out ↔ s ∈ xs) ∧ out.length ≤ n ∧ ∃ v, e = .returned v ∧ HRow w' W.heap.size 9 1 v out.length (out.map sv) ∧ Below W.heap.size W w' := by
  obtain ⟨B, hB⟩ : ∃ B, W.heap.size = B := ⟨_, rfl⟩
  have HW : Below B W W := .refl _ W
  rw [hB]
  go_enter Try.func11, Try.ntmps11
  go_wp2_with fail
  go_loopg [3, 4] 1001 (fun gh ov iv w => ∃ (i : Nat) (out : List (K M)), i ≤ n ∧ 1001 ≤ i + gh ∧ iv = .int .i64 (i : Int) ∧ SrtK out ∧ (∀ s, s ∈ out ↔ s ∈ xs.take i) ∧ out.length ≤ i ∧ HRow w B 9 1 ov out.length (out.map sv) ∧ Below B W w)
  case atStart => exact ⟨0, [], Nat.zero_le _, Nat.le_refl _, rfl, List.Pairwise.nil, fun s => by simp, Nat.le_refl _, HRow.nil, HW⟩
  case round =>
    obtain ⟨i, out, hin, hig, rfl, hso, hmem, hol, hR, hbel⟩ := hrel
    obtain ⟨ol, hoe⟩ : ∃ ol, out.length = ol := ⟨_, rfl⟩
    rw [hoe] at hR hol
    obtain ⟨po, co, rfl, hco, _⟩ := hR.isslice
    have hPo := hr_strs hR hoe
    by_cases hlt : i < n
    · obtain ⟨b, off, rfl, hbW, hcW⟩ := hP i (by omega)
      obtain ⟨x, hx⟩ : ∃ x : K M, xs[i]'(by omega) = x := ⟨xs[i]'(by omega), rfl⟩
      rw [hx] at hcW
      have hcq : ∀ q, (wr.drewN q).cell? ⟨b, off + i, none⟩ = some (.string x.1) := fun q => (World.cell?_of_block (w := W) (hbel.block b (by omega))).trans hcW
      have hmx : ∀ s, s ∈ xs.take (i + 1) ↔ s = x ∨ s ∈ out := fun s => by rw [List.take_succ_eq_append_getElem (by omega), List.mem_append, List.mem_singleton, hx, hmem]; exact or_comm
      have HB := Lib.hid (And.intro hB (And.intro hoe (And.intro hmem (And.intro hmx hx))))
      have hBs : B ≤ wr.heap.size := by have := hbel.size; omega
      clear hx hcW hB hoe hmem hmx hP
      go_upto_block 2 with fail
      go_cut [5] from 14 to 29 (fun av wx => ∃ a q : Nat, a ≤ ol ∧ av = .int .i64 (a : Int) ∧ (∀ j (h : j < out.length), a ≤ j → keyOf x < keyOf out[j]) ∧ (∀ h : 0 < a ∧ a ≤ out.length, ¬ keyOf x < keyOf (out[a - 1]'(by omega))) ∧ wx = wr.drewN q)
      case first =>
        have hoe := HB.out.2.1
        go_wp2_with fail
        go_loopg [5] (ol + 1) (fun kk av w => ∃ a q : Nat, a ≤ ol ∧ a + 1 ≤ kk ∧ av = .int .i64 (a : Int) ∧ (∀ j (h : j < out.length), a ≤ j → keyOf x < keyOf out[j]) ∧ w = wr.drewN q)
        case atStart => exact ⟨ol, 0, Nat.le_refl _, Nat.le_refl _, rfl, fun j h hj => by omega, rfl⟩
        case round =>
          obtain ⟨a, q, hal, hak, rfl, hhi, rfl⟩ := hrel
          by_cases ha0 : 0 < a
          · obtain ⟨a', rfl⟩ : ∃ a', a = a' + 1 := ⟨a - 1, by omega⟩
            obtain ⟨bo, oo, rfl, hbo, hco'⟩ := hPo a' (by omega)
            obtain ⟨y, hy⟩ : ∃ y : K M, out[a']'(by omega) = y := ⟨out[a']'(by omega), rfl⟩
            rw [hy] at hco'
            have hyq : ∀ q, (wr.drewN q).cell? ⟨bo, oo + a', none⟩ = some (.string y.1) := fun q => hco'
            have hd0 : decide ((0 : Int) < ((a' + 1 : Nat) : Int)) = true := decide_eq_true (by omega)
            have hwa : IntKind.i64.wrap (a' : Int) = (a' : Int) := by rw [IntKind.wrap_i64]; omega
            have hb2 : (a' : Int) < (ol : Int) := by omega
            have hb3 : (i : Int) < (n : Int) := by omega
            have hs1 := str_lt y x
            have hs2 := str_eq y x
            by_cases hxy : keyOf x < keyOf y
            · have e1 : Op.bytesLess y.1.toList x.1.toList = false := by rw [hs1]; exact decide_eq_false (by omega)
              have e2 : (y.1.toList == x.1.toList) = false := by rw [hs2]; exact decide_eq_false (by omega)
              have HY := Lib.hid hy
              clear hs1 hs2 hy
              go_wp2_with fail
              go_quiet (fail)
              go_wp2_with fail
              go_roundg (a' + 1)
              case measure => omega
              case rel => exact ⟨a', q + nq, by omega, by omega, rfl, fun j h hj => by
                by_cases e : j = a'
                · subst e; rw [HY.out]; exact hxy
                · exact hhi j h (by omega), rfl⟩
            · have hge : ∀ h : 0 < a' + 1 ∧ a' + 1 ≤ out.length, ¬ keyOf x < keyOf (out[a' + 1 - 1]'(by omega)) := fun h => by simp only [Nat.add_sub_cancel]; rw [hy]; exact hxy
              have HGE := Lib.hid hge
              by_cases hyx : keyOf y < keyOf x
              · have e1 : Op.bytesLess y.1.toList x.1.toList = true := by rw [hs1]; exact decide_eq_true hyx
                clear hs1 hs2 hge hy
                go_wp2_with fail
                go_quiet (fail)
                go_wp2_with fail
                go_meet
                exact ⟨a' + 1, q + nq, by omega, rfl, hhi, HGE.out, by first | rfl | exact World.drewN_drewN _ _ _⟩
              · have e1 : Op.bytesLess y.1.toList x.1.toList = false := by rw [hs1]; exact decide_eq_false hyx
                have e2 : (y.1.toList == x.1.toList) = true := by rw [hs2]; exact decide_eq_true (by omega)
                clear hs1 hs2 hge hy
                go_wp2_with fail
                go_quiet (fail)
                go_wp2_with fail
                go_meet
                exact ⟨a' + 1, q + nq, by omega, rfl, hhi, HGE.out, by first | rfl | exact World.drewN_drewN _ _ _⟩
          · obtain rfl : a = 0 := by omega
            go_wp2_with fail
            go_quiet (fail)
            go_wp2_with fail
            go_meet
            exact ⟨0, q + nq, by omega, rfl, hhi, fun h => absurd h.1 (by omega), by first | rfl | exact World.drewN_drewN _ _ _⟩
      case rest =>
        obtain ⟨a, q, hal, rfl, hhi, hge, rfl⟩ := hcut
        by_cases hdup : ∃ h : 0 < a ∧ a ≤ out.length, keyOf (out[a - 1]'(by omega)) = keyOf x
        · obtain ⟨hda, hdk⟩ := hdup
          obtain ⟨a', rfl⟩ : ∃ a', a = a' + 1 := ⟨a - 1, by omega⟩
          obtain ⟨bo, oo, rfl, hbo, hco'⟩ := hPo a' (by omega)
          obtain ⟨y, hy⟩ : ∃ y : K M, out[a']'(by omega) = y := ⟨out[a']'(by omega), rfl⟩
          rw [hy] at hco'
          simp only [Nat.add_sub_cancel] at hdk
          rw [hy] at hdk
          have hyq : ∀ q, (wr.drewN q).cell? ⟨bo, oo + a', none⟩ = some (.string y.1) := fun q => hco'
          have hd0 : decide ((0 : Int) < ((a' + 1 : Nat) : Int)) = true := decide_eq_true (by omega)
          have hwa : IntKind.i64.wrap (a' : Int) = (a' : Int) := by rw [IntKind.wrap_i64]; omega
          have hb2 : (a' : Int) < (ol : Int) := by omega
          have hb3 : (i : Int) < (n : Int) := by omega
          have e2 : (y.1.toList == x.1.toList) = true := by rw [str_eq]; exact decide_eq_true hdk
          have hxo : x ∈ out := by have : x = y := (key_ext hdk).symm; rw [this, ← hy]; exact List.getElem_mem _
          clear hy hge hda
          go_wp2_with fail
          go_quiet (fail)
          go_wp2_with fail
          go_roundg (1000 - i)
          case measure => omega
          case rel => exact ⟨i + 1, out, by omega, by omega, by simp, hso, fun s => by rw [HB.out.2.2.2.1 s]; exact ⟨.inr, fun h => h.elim (fun e => e ▸ hxo) id⟩, by rw [HB.out.2.1]; omega, by rw [HB.out.2.1]; exact hR.later (below_drewN wr _), hbel.trans ((below_drewN wr _).mono hBs)⟩
        · go_upto_region 8 with fail
          go_cut [43] from 30 to 43 (fun cv wx => ∃ q, cv = .bool false ∧ wx = wr.drewN q)
          case first =>
            by_cases ha0 : 0 < a
            · obtain ⟨a', rfl⟩ : ∃ a', a = a' + 1 := ⟨a - 1, by omega⟩
              have hlo : a' < out.length := by have := HB.out.2.1; omega
              obtain ⟨bo, oo, rfl, hbo, hco'⟩ := hPo a' hlo
              obtain ⟨y, hy⟩ : ∃ y : K M, out[a'] = y := ⟨out[a'], rfl⟩
              rw [hy] at hco'
              have hyq : ∀ q, (wr.drewN q).cell? ⟨bo, oo + a', none⟩ = some (.string y.1) := fun q => hco'
              have hd0 : decide ((0 : Int) < ((a' + 1 : Nat) : Int)) = true := decide_eq_true (by omega)
              have hwa : IntKind.i64.wrap (a' : Int) = (a' : Int) := by rw [IntKind.wrap_i64]; omega
              have hb2 : (a' : Int) < (ol : Int) := by omega
              have hb3 : (i : Int) < (n : Int) := by omega
              have e2 : (y.1.toList == x.1.toList) = false := by rw [str_eq]; exact decide_eq_false (fun e => hdup ⟨⟨by omega, by omega⟩, by simp only [Nat.add_sub_cancel]; rw [hy]; exact e⟩)
              clear hy hge hdup
              go_wp2_with fail
              go_quiet (fail)
              go_wp2_with fail
              go_meet
              exact ⟨_, rfl, World.drewN_drewN _ _ _⟩
            · obtain rfl : a = 0 := by omega
              clear hge hdup
              go_wp2_with fail
              go_quiet (fail)
              go_wp2_with fail
              go_meet
              exact ⟨_, rfl, World.drewN_drewN _ _ _⟩
          case rest =>
            obtain ⟨q2, rfl, rfl⟩ := hcut
            have hput : SrtK (out.take a ++ x :: out.drop a) := SrtK.put hso (by have := HB.out.2.1; omega) (fun h => by
              have h1 := hge ⟨h, by have := HB.out.2.1; omega⟩
              have h2 : ¬ keyOf (out[a - 1]'(by have := HB.out.2.1; omega)) = keyOf x := fun e => hdup ⟨⟨h, by have := HB.out.2.1; omega⟩, e⟩
              omega) hhi
            have HP := Lib.hid hput
            clear hput hge hdup hhi
            obtain ⟨w2, hw2⟩ : ∃ w2, wr.drewN q2 = w2 := ⟨_, rfl⟩
            have hR2 : HRow w2 B 9 1 (.slice po ol co) ol (out.map sv) := by rw [← hw2]; exact hR.later (below_drewN wr q2)
            have hbel2 : Below B W w2 := by rw [← hw2]; exact hbel.trans ((below_drewN wr q2).mono hBs)
            have hcx : w2.cell? ⟨b, off + i, none⟩ = some (.string x.1) := by rw [← hw2]; exact hcq q2
            have hBs2 : B ≤ w2.heap.size := by rw [← hw2]; exact hBs
            have hWs : W.heap.size = B := HB.out.1
            rw [hw2]
            clear hw2 hcq hbel hR hPo hBs
            obtain ⟨i0, hi0, hz0, hz1, hz2⟩ := info_parts info9
            obtain ⟨g, cap', w3, hrun, r3, g3⟩ := run_append_has (P := Try.prog) (w2.alloc (.cells #[.string ⟨#[]⟩] 9)) B 32 32 9 i0 _ 1 16 Try.underlying32 hi0 hz0 hz1 hz2 rfl (by decide) (hR2.later (below_alloc w2 _)) ⟨w2.heap.size, 0, none⟩ 1 1 [.string ⟨#[]⟩] rfl (cell_one_new _ _ _) (by simp [Value.oneCell']) (by decide) (by unfold maxLen; omega) (by omega) (by rw [World.size_alloc]; omega)
            have hb3 : Below B W w3 := hbel2.trans ((below_alloc w2 _).mono hBs2 |>.trans (grown_below g3 (fun q hq => ((hR2.later (below_alloc w2 (.cells #[.string ⟨#[]⟩] 9))).lt q hq).1) (by rw [World.size_alloc]; omega)))
            have hc3 : w3.cell? ⟨b, off + i, none⟩ = some (.string x.1) := (World.cell?_of_block (w := W) (hb3.block b (by omega))).trans ((World.cell?_of_block (w := W) (hbel2.block b (by omega))).symm.trans hcx)
            obtain ⟨cur, hmg, hgc, hcc, _, hcs, _⟩ := r3.form
            have hs9 := size9
            obtain ⟨a1, ha1⟩ : ∃ a1 : Nat, a1 = a + 1 := ⟨_, rfl⟩
            have hwa : IntKind.i64.wrap ((a : Int) + 1) = (a1 : Int) := by rw [ha1, IntKind.wrap_i64]; omega
            have hq0 : (a : Int) ≤ (ol : Int) + 1 := by omega
            have hq1 : (a1 : Int) ≤ (ol : Int) + 1 := by omega
            have hq2 : (i : Int) < (n : Int) := by omega
            have hq3 : (a : Int) < (ol : Int) + 1 := by omega
            have hn0 : cap' ≠ a := by omega
            have HA := Lib.hid ha1
            have hml : (out.map sv).length = ol := by rw [List.length_map]; exact HB.out.2.1
            obtain ⟨Mv, hM1, hM2, r4⟩ := row_moved (w := w3.drew) hml hal cur r3 hgc (sv x)
            have hms := row_src r3 a
            have hcn : ((out.map sv).drop a).length = Nat.min (ol + 1 - a) (ol + 1 - a1) * 1 := by have h := Nat.min_eq_right (show ol + 1 - a1 ≤ ol + 1 - a by omega); show _ = min (ol + 1 - a) (ol + 1 - a1) * 1; rw [List.length_drop, hml, h]; omega
            rw [← ha1, List.append_assoc] at r4
            have hfit : a1 + ((out.map sv).drop a).length ≤ cur.size := by rw [List.length_drop, hml]; omega
            have hone : ∀ u ∈ (out.map sv).drop a, u.oneCell' = true := fun u hu => by
              obtain ⟨s, _, rfl⟩ := List.mem_map.1 (List.mem_of_mem_drop hu)
              rfl
            have HM := Lib.hid (And.intro hM1 (And.intro hM2 (And.intro hcn hml)))
            obtain ⟨D, hD⟩ : ∃ D, (out.map sv).drop a = D := ⟨_, rfl⟩
            rw [hD] at r4 hms hfit hone
            have hcn' : D.length = Nat.min (ol + 1 - a) (ol + 1 - a1) * 1 := by rw [← hD]; exact hcn
            have HD := Lib.hid (And.intro hD hcn')
            clear hD hcn hcn' hM1 hM2 hml ha1 hi0 hz0 hz1 hz2
            go_upto_region 10 with (at_builtin; refine wpList_append_run rfl (.tmp 44) (.tmp 45) 32 rfl rfl rfl hrun ?_)
            have hBs3 : B ≤ w3.heap.size := Nat.le_trans (Nat.le_of_eq hWs.symm) hb3.size
            by_cases hn1 : cap' = a1
            · have hD0 : D = [] := by rw [← HD.out.1]; exact List.drop_eq_nil_of_le (by rw [HM.out.2.2.2]; have := HA.out; omega)
              rw [hD0, List.nil_append, List.length_nil, Nat.add_zero, List.take_append_drop, Array.toArray_toList] at r4
              subst hn1
              go_region_law? (refine step_copy_sized rfl (.tmp 50) (.tmp 53) 32 32 rfl 9 1 Try.underlying32 hs9 0 (cap' - cap') (ol + 1 - a) (cap' - a) g 0 ⟨g, a, none⟩ (by simp [Act.eval, Act.put]) (by simp [Act.eval, Act.put]) cur 9 hgc [] (by have h := Nat.min_zero (ol + 1 - a); show _ = min (ol + 1 - a) 0 * 1; rw [h]; rfl) (by intro j u hj; simp at hj) (by simp) (by intro u hu; simp at hu) ?_)
              obtain ⟨w4, hw4⟩ : ∃ w4, w4 = w3.drew.setRow g cur := ⟨_, rfl⟩
              have gs : w3.grownBy (w3.drew.setRow g cur) (some g) := grown_setRow w3 g _
              rw [← hw4] at r4 gs ⊢
              clear hw4
              have hb4 : Below B W w4 := hb3.trans (grown_below gs (fun q hq => by cases hq; exact hmg) hBs3)
              have hc4 : w4.cell? ⟨b, off + i, none⟩ = some (.string x.1) := (World.cell?_of_block (w := W) (hb4.block b (by omega))).trans ((World.cell?_of_block (w := W) (hbel2.block b (by omega))).symm.trans hcx)
              obtain ⟨z0, hz0⟩ : ∃ z, w4.cell? ⟨g, a, none⟩ = some z := ⟨_, r4.cell (List.getElem?_eq_getElem (by have := HM.out.1; omega))⟩
              have f0 := r4.frozenAt a
              go_wp2_with fail
              obtain ⟨r5, g5⟩ := r4.stored a (sv x)
              have hb5 : Below B W (w4.setCell ⟨g, a, none⟩ (sv x)) := hb4.trans (grown_below g5 (fun q hq => by cases hq; exact hmg) (Nat.le_trans hBs3 gs.size))
              have hle : (out.take a ++ x :: out.drop a).length = ol + 1 := by rw [List.length_append, List.length_cons, List.length_take, List.length_drop, HB.out.2.1]; omega
              have hmp : (out.take a ++ x :: out.drop a).map sv = Mv.set a (sv x) := by rw [HM.out.2.1, List.map_append, List.map_cons, List.map_take, List.map_drop]
              go_roundg (1000 - i)
              case measure => omega
              case rel => exact ⟨i + 1, out.take a ++ x :: out.drop a, by omega, by omega, by simp, HP.out, fun s => by rw [HB.out.2.2.2.1 s]; exact mem_put, by rw [hle]; omega, by rw [hle, hmp]; exact r5, hb5⟩
            · go_region_law? (refine step_copy_sized rfl (.tmp 50) (.tmp 53) 32 32 rfl 9 1 Try.underlying32 hs9 (ol + 1 - a1) (cap' - a1) (ol + 1 - a) (cap' - a) g a1 ⟨g, a, none⟩ (by simp [Act.eval, Act.put]) (by simp [Act.eval, Act.put]) cur 9 hgc D HD.out.2 hms hfit hone ?_)
              obtain ⟨w4, hw4⟩ : ∃ w4, w4 = w3.drew.setRow g (List.take a1 cur.toList ++ (D ++ List.drop (a1 + D.length) cur.toList)).toArray := ⟨_, rfl⟩
              have gs : w3.grownBy (w3.drew.setRow g (List.take a1 cur.toList ++ (D ++ List.drop (a1 + D.length) cur.toList)).toArray) (some g) := grown_setRow w3 g _
              rw [← hw4] at r4 gs ⊢
              clear hw4
              have hb4 : Below B W w4 := hb3.trans (grown_below gs (fun q hq => by cases hq; exact hmg) hBs3)
              have hc4 : w4.cell? ⟨b, off + i, none⟩ = some (.string x.1) := (World.cell?_of_block (w := W) (hb4.block b (by omega))).trans ((World.cell?_of_block (w := W) (hbel2.block b (by omega))).symm.trans hcx)
              obtain ⟨z0, hz0⟩ : ∃ z, w4.cell? ⟨g, a, none⟩ = some z := ⟨_, r4.cell (List.getElem?_eq_getElem (by have := HM.out.1; omega))⟩
              have f0 := r4.frozenAt a
              go_wp2_with fail
              obtain ⟨r5, g5⟩ := r4.stored a (sv x)
              have hb5 : Below B W (w4.setCell ⟨g, a, none⟩ (sv x)) := hb4.trans (grown_below g5 (fun q hq => by cases hq; exact hmg) (Nat.le_trans hBs3 gs.size))
              have hle : (out.take a ++ x :: out.drop a).length = ol + 1 := by rw [List.length_append, List.length_cons, List.length_take, List.length_drop, HB.out.2.1]; omega
              have hmp : (out.take a ++ x :: out.drop a).map sv = Mv.set a (sv x) := by rw [HM.out.2.1, List.map_append, List.map_cons, List.map_take, List.map_drop]
              go_roundg (1000 - i)
              case measure => omega
              case rel => exact ⟨i + 1, out.take a ++ x :: out.drop a, by omega, by omega, by simp, HP.out, fun s => by rw [HB.out.2.2.2.1 s]; exact mem_put, by rw [hle]; omega, by rw [hle, hmp]; exact r5, hb5⟩
    · have hin' : i = n := by omega
      subst hin'
      go_wp2_with fail
      go_ret
      exact ⟨out, hso, fun s => by rw [hmem s, List.take_of_length_le (by omega)], by omega, _, rfl, by rw [hoe]; exact hR, hbel⟩
end Go.Proofs.Ythkggkndglbdkaa.S
