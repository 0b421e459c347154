/- The reference's Compare and Row of what is the same. -/
import Derived.Test.YtffpmmphpdkkbaaGreatMTG
import Derived.Test.YtffpmmphpdkkbaaGreatMPar
namespace Go.Proofs.YtffpmmphpdkkbaaGreat
open Go Go.RowKit Go.Proofs Co Co.S
set_option maxRecDepth 100000 in
set_option maxHeartbeats 1000000 in
theorem cmp_same (k n1 : Int) (s : ByteArray) (w : World) : Calls Tryz.prog 54 #[(Value.agg #[Value.int .i64 (k), Value.int .i64 (n1), Value.string (s)]), (Value.agg #[Value.int .i64 (k), Value.int .i64 (n1), Value.string (s)])] w fun e w' => e = .returned (.int .i64 0) ∧ Below w.heap.size w w' := by
  have hb1 := below_alloc w (.cells #[.int .i64 k, .int .i64 n1, .string s] 53)
  have hb2 := below_on hb1 (below_alloc (w.alloc (.cells #[.int .i64 k, .int .i64 n1, .string s] 53)) (.cells #[.int .i64 k, .int .i64 n1, .string s] 53))
  have HB := Lib.hid hb2
  have hbl := bl_self s.toList
  clear hb1 hb2
  go_enter Tryz.func54, Tryz.ntmps54
  go_wp2_with fail
  go_ret
  exact ⟨rfl, HB.out⟩
set_option maxRecDepth 100000 in
set_option maxHeartbeats 2000000 in
theorem rrow_same {S1 S2 : Nat → Prop} {v1 v2 : Value} {l : List T3} {W : World} (h1 : InV S1 W v1 l) (h2 : InV S2 W v2 l) : Calls Tryz.prog 25 #[v1, v2] W fun e w' => e = .returned (.int .i64 0) ∧ Below W.heap.size W w' := by
  obtain ⟨p1, c1, rfl, _, m1⟩ := h1.slice
  obtain ⟨p2, c2, rfl, _, m2⟩ := h2.slice
  obtain ⟨n, hn⟩ : ∃ n, l.length = n := ⟨_, rfl⟩
  have hn' : (n : Int) ≤ 9223372036854775807 := by unfold maxLen at m1; omega
  have H1 := Lib.hid h1
  have H2 := Lib.hid h2
  have HN := Lib.hid hn
  rw [hn]
  clear h1 h2 m1 m2 hn
  go_enter Tryz.func25, Tryz.ntmps25
  go_upto_block 0 with fail
  go_cut [] from 200 to 200 (fun w => Below W.heap.size W w)
  case first =>
    go_wp2_with fail
    go_loopg [5] (n + 1) (fun gh jv w => ∃ (j : Nat), jv = .int .i64 (j : Int) ∧ j ≤ n ∧ n + 1 ≤ j + gh ∧ Below W.heap.size W w)
    case atStart => exact ⟨0, rfl, Nat.zero_le _, by omega, Below.refl _ _⟩
    case round =>
      obtain ⟨j, rfl, hj, hg, hB⟩ := hrel
      by_cases hlt : j < n
      · have hjl : j < l.length := by rw [HN.out]; exact hlt
        have hji : (j : Int) < (n : Int) := by omega
        obtain ⟨b1, o1, rfl, hb1, _⟩ := H1.out.val hjl
        obtain ⟨b2, o2, rfl, hb2, _⟩ := H2.out.val hjl
        obtain ⟨u, hu⟩ : ∃ u, l[j] = u := ⟨_, rfl⟩
        have HV : Hid (∀ w, Below W.heap.size W w → (w.cell? ⟨b1, o1 + j * 3, none⟩ = some (.int .i64 u.1) ∧ w.cell? ⟨b1, o1 + j * 3 + 1, none⟩ = some (.int .i64 u.2.1) ∧ w.cell? ⟨b1, o1 + j * 3 + 2, none⟩ = some (.string u.2.2)) ∧
            (w.cell? ⟨b2, o2 + j * 3, none⟩ = some (.int .i64 u.1) ∧ w.cell? ⟨b2, o2 + j * 3 + 1, none⟩ = some (.int .i64 u.2.1) ∧ w.cell? ⟨b2, o2 + j * 3 + 2, none⟩ = some (.string u.2.2))) := Lib.hid (fun w hb => by
          obtain ⟨b1', o1', e1, _, r1⟩ := (H1.out.later hb).val hjl
          obtain ⟨b2', o2', e2, _, r2⟩ := (H2.out.later hb).val hjl
          cases e1; cases e2
          rw [← hu]
          exact ⟨r1, r2⟩)
        have hcmp := fun w => cmp_same u.1 u.2.1 u.2.2 w
        have HB := Lib.hid hB
        clear hB hu hb1 hb2
        go_upto_region 4 with fail
        refine Par.wp_region_par 8 [.slice (some ⟨b1, o1, none⟩) n c1, (Value.int .i64 ((j : Int))), (Value.pointer (some ⟨b1, o1 + j * 3, none⟩)), (Value.agg #[Value.int .i64 (u.1), Value.int .i64 (u.2.1), Value.string (u.2.2)]), .slice (some ⟨b2, o2, none⟩) n c2, (Value.int .i64 ((j : Int))), (Value.pointer (some ⟨b2, o2 + j * 3, none⟩)), (Value.agg #[Value.int .i64 (u.1), Value.int .i64 (u.2.1), Value.string (u.2.2)])] (fun w => Below W.heap.size W w) ?A1 ?hm1 ?hB1 ?hA1 (HB.out.drew) ?hop1 ?hT1
        case hm1 => kernel_rfl
        case hB1 => kernel_rfl
        case hA1 =>
          simp only [Par.putA, Par.dstAt, Act.put, List.getElem?_toArray, List.getElem?_cons_zero, List.getElem?_cons_succ, Option.bind_some, List.setIfInBounds_toArray, List.set_cons_zero, List.set_cons_succ, List.getD_cons_zero, List.getD_cons_succ]
          rfl
        case hop1 =>
          simp only [List.take_succ_cons, List.take_zero, Par.GiveAll, and_true]
          refine ⟨fun w' hR => ?_, fun w' hR => ?_, fun w' hR => ?_, fun w' hR => ?_, fun w' hR => ?_, fun w' hR => ?_, fun w' hR => ?_, fun w' hR => ?_⟩
          · have HR := Lib.hid hR
            clear hR
            simp only [Par.Gives]
            go_simp
            all_goals exact HR.out
          · have HR := Lib.hid hR
            clear hR
            simp only [Par.Gives]
            go_simp
            all_goals exact HR.out
          · have HR := Lib.hid hR
            clear hR
            simp only [Par.Gives]
            go_simp
            all_goals exact HR.out
          · have HR := Lib.hid hR
            have x0 := (HV.out w' hR).1.1
            have x1 := (HV.out w' hR).1.2.1
            have x2 := (HV.out w' hR).1.2.2
            clear hR
            simp only [Par.Gives]
            go_simp
            all_goals exact HR.out
          · have HR := Lib.hid hR
            clear hR
            simp only [Par.Gives]
            go_simp
            all_goals exact HR.out
          · have HR := Lib.hid hR
            clear hR
            simp only [Par.Gives]
            go_simp
            all_goals exact HR.out
          · have HR := Lib.hid hR
            clear hR
            simp only [Par.Gives]
            go_simp
            all_goals exact HR.out
          · have HR := Lib.hid hR
            have x0 := (HV.out w' hR).2.1
            have x1 := (HV.out w' hR).2.2.1
            have x2 := (HV.out w' hR).2.2.2
            clear hR
            simp only [Par.Gives]
            go_simp
            all_goals exact HR.out
        case hT1 =>
          intro w' hR
          simp only [List.drop_succ_cons, List.drop_zero]
          have HR := Lib.hid hR
          have hcmp := hcmp w'
          clear hR
          go_wp2_with (go_at_call 54; (with_reducible refine hcmp.mono ?_); rintro e w4 ⟨rfl, hb4⟩; have H4 := Lib.hid (HR.out.trans (hb4.mono HR.out.size)); clear hcmp hb4)
          go_roundg (n - j)
          case measure => omega
          case rel => exact ⟨j + 1, rfl, by omega, by omega, H4.out⟩
      · obtain rfl : j = n := by omega
        go_wp2_with fail
        go_meet
        exact hB
  case rest =>
    have HB0 := Lib.hid hcut
    go_wp2_with fail
    go_ret
    exact ⟨rfl, HB0.out⟩
end Go.Proofs.YtffpmmphpdkkbaaGreat
