/- The reference's Compare, EqPath, of ways that are the same. -/
import Derived.Test.YtcgceigcegddlaaSA
import Derived.Laws.Cover1
namespace Go.Proofs.Ytcgceigcegddlaa
open Go Go.RowKit Go.Proofs

theorem bl_self : ∀ l : List UInt8, Op.bytesLess l l = false
  | [] => rfl
  | a :: r => by
    unfold Op.bytesLess
    rw [bl_self r]
    simp
set_option maxRecDepth 100000 in
set_option maxHeartbeats 2000000 in
theorem compare_same {l : List ByteArray} {v u : Value} {W : World} (h : RdS W v l) (k : RdS W u l) : Calls Try.prog 17 #[v, u] W fun e w' => e = .returned (.int .i64 0) ∧ Below W.heap.size W w' := by
  obtain ⟨p, cap, rfl, hc, hm⟩ := h.slice
  obtain ⟨q, cq, rfl, hc2, hm2⟩ := k.slice
  obtain ⟨n, hn⟩ : ∃ n, l.length = n := ⟨_, rfl⟩
  unfold maxLen at hm
  rw [hn] at hc hc2 h k ⊢
  have HR := Lib.hid (And.intro h k)
  have HN := Lib.hid hn
  clear h k hn
  go_enter Try.func17, Try.ntmps17
  go_wp2_with fail
  go_loopg [5] (n + 1) (fun gh jv w => ∃ (j : Nat), jv = .int .i64 (j : Int) ∧ j ≤ n ∧ n + 1 ≤ j + gh ∧ Below W.heap.size W w)
  case atStart => exact ⟨0, rfl, Nat.zero_le _, by omega, Below.refl _ _⟩
  case round =>
    obtain ⟨j, rfl, hj, hg, hB⟩ := hrel
    by_cases hlt : j < n
    · have hjl : j < l.length := by rw [HN.out]; exact hlt
      obtain ⟨b1, o1, rfl, hb1, _⟩ := RdS.word (HR.out.1.later hB) hjl
      obtain ⟨b2, o2, rfl, hb2, _⟩ := RdS.word (HR.out.2.later hB) hjl
      obtain ⟨x, hx⟩ : ∃ x, l[j] = x := ⟨_, rfl⟩
      have HX : Hid (∀ w, Below W.heap.size W w → w.cell? ⟨b1, o1 + j, none⟩ = some (.string x) ∧ w.cell? ⟨b2, o2 + j, none⟩ = some (.string x)) := Lib.hid (fun w hb => by
        rw [← hx]
        exact ⟨(RdS.wordAt (HR.out.1.later hb) hjl).2, (RdS.wordAt (HR.out.2.later hb) hjl).2⟩)
      have hji : (j : Int) < (n : Int) := by omega
      have HB := Lib.hid hB
      clear hB hb1 hb2 hx
      go_upto_region 4 with fail
      refine Par.wp_region_par 9 [.slice (some ⟨b1, o1, none⟩) n cap, .int .i64 j, (Value.pointer (some ⟨b1, o1 + j, none⟩)), .string x, .slice (some ⟨b2, o2, none⟩) n cq, .int .i64 j, (Value.pointer (some ⟨b2, o2 + j, none⟩)), .string x, .bool false] (fun w => Below W.heap.size W w) ?A1 ?hm1 ?hB1 ?hA1 (HB.out.drew) ?hop1 ?hT1
      case hm1 => kernel_rfl
      case hB1 => kernel_rfl
      case hA1 =>
        simp only [Par.putA, Par.dstAt, Act.put, List.getElem?_toArray, List.getElem?_cons_zero, List.getElem?_cons_succ, Option.bind_some, List.setIfInBounds_toArray, List.set_cons_zero, List.set_cons_succ, List.getD_cons_zero, List.getD_cons_succ]
        rfl
      case hop1 =>
        simp only [List.take_succ_cons, List.take_zero, Par.GiveAll, and_true]
        refine ⟨fun w' hR => ?_, fun w' hR => ?_, fun w' hR => ?_, fun w' hR => ?_, fun w' hR => ?_, fun w' hR => ?_, fun w' hR => ?_, fun w' hR => ?_, fun w' hR => ?_⟩
        · have HR := Lib.hid hR
          clear hR
          simp only [Par.Gives]
          go_simp
          all_goals exact HR.out
        · have HR := Lib.hid hR
          clear hR
          simp only [Par.Gives]
          go_simp
          all_goals exact HR.out
        · have HR := Lib.hid hR
          clear hR
          simp only [Par.Gives]
          go_simp
          all_goals exact HR.out
        · have HR := Lib.hid hR
          have k := (HX.out w' hR).1
          clear hR
          simp only [Par.Gives]
          go_simp
          all_goals exact HR.out
        · have HR := Lib.hid hR
          clear hR
          simp only [Par.Gives]
          go_simp
          all_goals exact HR.out
        · have HR := Lib.hid hR
          clear hR
          simp only [Par.Gives]
          go_simp
          all_goals exact HR.out
        · have HR := Lib.hid hR
          clear hR
          simp only [Par.Gives]
          go_simp
          all_goals exact HR.out
        · have HR := Lib.hid hR
          have k := (HX.out w' hR).2
          clear hR
          simp only [Par.Gives]
          go_simp
          all_goals exact HR.out
        · have HR := Lib.hid hR
          have k := bl_self x.toList
          clear hR
          simp only [Par.Gives]
          go_simp
          all_goals exact HR.out
      case hT1 =>
        intro w' hR
        simp only [List.drop_succ_cons, List.drop_nil]
        have HR1 := Lib.hid hR
        clear hR
        go_upto_region 6 with fail
        refine Par.wp_region_par 9 [.slice (some ⟨b1, o1, none⟩) n cap, .int .i64 j, (Value.pointer (some ⟨b1, o1 + j, none⟩)), .string x, .slice (some ⟨b2, o2, none⟩) n cq, .int .i64 j, (Value.pointer (some ⟨b2, o2 + j, none⟩)), .string x, .bool false] (fun w => Below W.heap.size W w) ?A2 ?hm2 ?hB2 ?hA2 (HR1.out.drew) ?hop2 ?hT2
        case hm2 => kernel_rfl
        case hB2 => kernel_rfl
        case hA2 =>
          simp only [Par.putA, Par.dstAt, Act.put, List.getElem?_toArray, List.getElem?_cons_zero, List.getElem?_cons_succ, Option.bind_some, List.setIfInBounds_toArray, List.set_cons_zero, List.set_cons_succ, List.getD_cons_zero, List.getD_cons_succ]
          rfl
        case hop2 =>
          simp only [List.take_succ_cons, List.take_zero, Par.GiveAll, and_true]
          refine ⟨fun w' hR => ?_, fun w' hR => ?_, fun w' hR => ?_, fun w' hR => ?_, fun w' hR => ?_, fun w' hR => ?_, fun w' hR => ?_, fun w' hR => ?_, fun w' hR => ?_⟩
          · have HR := Lib.hid hR
            clear hR
            simp only [Par.Gives]
            go_simp
            all_goals exact HR.out
          · have HR := Lib.hid hR
            clear hR
            simp only [Par.Gives]
            go_simp
            all_goals exact HR.out
          · have HR := Lib.hid hR
            clear hR
            simp only [Par.Gives]
            go_simp
            all_goals exact HR.out
          · have HR := Lib.hid hR
            have k := (HX.out w' hR).1
            clear hR
            simp only [Par.Gives]
            go_simp
            all_goals exact HR.out
          · have HR := Lib.hid hR
            clear hR
            simp only [Par.Gives]
            go_simp
            all_goals exact HR.out
          · have HR := Lib.hid hR
            clear hR
            simp only [Par.Gives]
            go_simp
            all_goals exact HR.out
          · have HR := Lib.hid hR
            clear hR
            simp only [Par.Gives]
            go_simp
            all_goals exact HR.out
          · have HR := Lib.hid hR
            have k := (HX.out w' hR).2
            clear hR
            simp only [Par.Gives]
            go_simp
            all_goals exact HR.out
          · have HR := Lib.hid hR
            have k := bl_self x.toList
            clear hR
            simp only [Par.Gives]
            go_simp
            all_goals exact HR.out
        case hT2 =>
          intro w' hR
          simp only [List.drop_succ_cons, List.drop_nil]
          have HR2 := Lib.hid hR
          clear hR
          go_wp2_with fail
          go_roundg (n - j)
          case measure => omega
          case rel => exact ⟨j + 1, by go_num, by omega, by omega, HR2.out⟩
    · obtain rfl : j = n := by omega
      go_wp2_with fail
      go_ret
      exact ⟨rfl, hB⟩
theorem eqPath_same {l : List ByteArray} {v u : Value} {W : World} (h : RdS W v l) (k : RdS W u l) : Calls Try.prog 35 #[v, u] W fun e w' => e = .returned (.bool true) ∧ Below W.heap.size W w' := by
  have hc := compare_same h k
  obtain ⟨p, cap, rfl, _, _⟩ := h.slice
  obtain ⟨q, cq, rfl, _, _⟩ := k.slice
  clear h k
  go_enter Try.func35, Try.ntmps35
  go_wp2_with (go_at_call 17; (with_reducible refine hc.mono ?_); rintro e w1 ⟨rfl, hb⟩)
  go_ret
  exact ⟨rfl, hb⟩
end Go.Proofs.Ytcgceigcegddlaa
