/- A nil column; ColumnNone. -/
import Derived.Test.YtglfmbpcapendaaO9
namespace Go.Proofs.Ytglfmbpcapendaa.S
open Go Go.RowKit Go.Shelf Go.Proofs Go.Proofs.Ytglfmbpcapendaa

theorem len_nil (W : World) : Calls Try.prog 14 #[.pointer none] W fun e w' => e = .returned (Value.int .i64 (0)) ∧ w' = W := by
  go_enter Try.func14, Try.ntmps14
  go_wp2
  go_ret
  exact ⟨rfl, rfl⟩
theorem words_nil (W : World) : Calls Try.prog 15 #[.pointer none] W fun e w' => e = .returned (Value.int .i64 (0)) ∧ w' = W := by
  go_enter Try.func15, Try.ntmps15
  go_wp2
  go_ret
  exact ⟨rfl, rfl⟩
theorem nulls_nil (W : World) : Calls Try.prog 16 #[.pointer none] W fun e w' => e = .returned (Value.int .i64 (0)) ∧ w' = W := by
  go_enter Try.func16, Try.ntmps16
  go_wp2
  go_ret
  exact ⟨rfl, rfl⟩
set_option maxRecDepth 100000 in
theorem at_nil (W : World) : Calls Try.prog 12 #[.pointer none, (Value.int .i64 (0))] W fun e w' => e = .returned (.tuple #[(Value.agg #[Value.int .i64 (0), Value.int .i64 (0), Value.string (⟨#[]⟩)]), .bool false]) ∧ Below W.heap.size W w' := by
  have hl := fun y => len_nil y
  go_enter Try.func12, Try.ntmps12
  go_wp2_with (go_at_call 14; (with_reducible refine (hl _).mono ?_); rintro e w' ⟨rfl, hw⟩; subst w')
  refine bodyPost_ret (v := .tuple #[(Value.agg #[Value.int .i64 (0), Value.int .i64 (0), Value.string (⟨#[]⟩)]), .bool false]) (by simp [results, Try.results12, go_sem]) rfl ?_
  exact ⟨rfl, below_alloc W _⟩
set_option maxRecDepth 100000 in
theorem takes_nil (k n1 : Int) (s : ByteArray) (W : World) : Calls Try.prog 19 #[.pointer none, (Value.agg #[Value.int .i64 (k), Value.int .i64 (n1), Value.string (s)])] W fun e w' => e = .returned (.bool false) ∧ Below W.heap.size W w' := by
  go_enter Try.func19, Try.ntmps19
  go_wp2_with fail
  refine Par.wp_region_par 21 [.pointer none, .bool false, .bool false, undef, undef, .bool false, .bool false, undef, undef, undef, undef, undef, undef, undef, undef, undef, undef, undef, undef, .bool false, .bool false] (fun w => Below W.heap.size W w) ?A1 ?hm1 ?hB1 ?hA1 (below_alloc W _).drew ?hop1 ?hT1
  case hm1 => kernel_rfl
  case hB1 => kernel_rfl
  case hA1 =>
    simp only [Par.putA, Par.dstAt, Act.put, List.getElem?_toArray, List.getElem?_cons_zero, List.getElem?_cons_succ, Option.bind_some, List.setIfInBounds_toArray, List.set_cons_zero, List.set_cons_succ, List.getD_cons_zero, List.getD_cons_succ]
    rfl
  case hop1 =>
    simp only [List.take_succ_cons, List.take_zero, Par.GiveAll, and_true]
    refine ⟨fun w' hR => ?_, fun w' hR => ?_, fun w' hR => ?_, fun w' hR => ?_, fun w' hR => ?_, fun w' hR => ?_, fun w' hR => ?_, fun w' hR => ?_, fun w' hR => ?_, fun w' hR => ?_, fun w' hR => ?_, fun w' hR => ?_, fun w' hR => ?_, fun w' hR => ?_, fun w' hR => ?_, fun w' hR => ?_, fun w' hR => ?_, fun w' hR => ?_, fun w' hR => ?_, fun w' hR => ?_, fun w' hR => ?_⟩
    · have HR := Lib.hid hR
      clear hR
      simp only [Par.Gives]
      go_simp
      all_goals exact HR.out
    · have HR := Lib.hid hR
      clear hR
      simp only [Par.Gives]
      go_simp
      all_goals exact HR.out
    · have HR := Lib.hid hR
      clear hR
      simp only [Par.Gives]
      go_simp
      all_goals exact HR.out
    · have HR := Lib.hid hR
      clear hR
      simp only [Par.Gives]
      go_simp
      all_goals exact HR.out
    · have HR := Lib.hid hR
      clear hR
      simp only [Par.Gives]
      go_simp
      all_goals exact HR.out
    · have HR := Lib.hid hR
      clear hR
      simp only [Par.Gives]
      go_simp
      all_goals exact HR.out
    · have HR := Lib.hid hR
      clear hR
      simp only [Par.Gives]
      go_simp
      all_goals exact HR.out
    · have HR := Lib.hid hR
      clear hR
      simp only [Par.Gives]
      go_simp
      all_goals exact HR.out
    · have HR := Lib.hid hR
      clear hR
      simp only [Par.Gives]
      go_simp
      all_goals exact HR.out
    · have HR := Lib.hid hR
      clear hR
      simp only [Par.Gives]
      go_simp
      all_goals exact HR.out
    · have HR := Lib.hid hR
      clear hR
      simp only [Par.Gives]
      go_simp
      all_goals exact HR.out
    · have HR := Lib.hid hR
      clear hR
      simp only [Par.Gives]
      go_simp
      all_goals exact HR.out
    · have HR := Lib.hid hR
      clear hR
      simp only [Par.Gives]
      go_simp
      all_goals exact HR.out
    · have HR := Lib.hid hR
      clear hR
      simp only [Par.Gives]
      go_simp
      all_goals exact HR.out
    · have HR := Lib.hid hR
      clear hR
      simp only [Par.Gives]
      go_simp
      all_goals exact HR.out
    · have HR := Lib.hid hR
      clear hR
      simp only [Par.Gives]
      go_simp
      all_goals exact HR.out
    · have HR := Lib.hid hR
      clear hR
      simp only [Par.Gives]
      go_simp
      all_goals exact HR.out
    · have HR := Lib.hid hR
      clear hR
      simp only [Par.Gives]
      go_simp
      all_goals exact HR.out
    · have HR := Lib.hid hR
      clear hR
      simp only [Par.Gives]
      go_simp
      all_goals exact HR.out
    · have HR := Lib.hid hR
      clear hR
      simp only [Par.Gives]
      go_simp
      all_goals exact HR.out
    · have HR := Lib.hid hR
      clear hR
      simp only [Par.Gives]
      go_simp
      all_goals exact HR.out
  case hT1 =>
    intro w' hR
    simp only [List.drop_succ_cons, List.drop_zero]
    go_wp2_with fail
    go_ret
    exact ⟨rfl, hR⟩
set_option maxRecDepth 100000 in
theorem append_nil (k n1 : Int) (s : ByteArray) (W : World) : Calls Try.prog 10 #[.pointer none, (Value.agg #[Value.int .i64 (k), Value.int .i64 (n1), Value.string (s)])] W fun e w' => e = .returned (.bool false) ∧ Below W.heap.size W w' := by
  have ht := fun y => takes_nil k n1 s y
  go_enter Try.func10, Try.ntmps10
  go_wp2_with (go_at_call 19; (with_reducible refine (ht _).mono ?_); rintro e x1 ⟨rfl, b1⟩)
  go_ret
  exact ⟨rfl, below_on (below_alloc W _) b1⟩
set_option maxRecDepth 100000 in
theorem set_nil (k n1 : Int) (s : ByteArray) (W : World) : Calls Try.prog 11 #[.pointer none, (Value.int .i64 (0)), (Value.agg #[Value.int .i64 (k), Value.int .i64 (n1), Value.string (s)])] W fun e w' => e = .returned (.bool false) ∧ Below W.heap.size W w' := by
  have ha := fun y => at_nil y
  go_enter Try.func11, Try.ntmps11
  go_wp2_with (go_at_call 12; (with_reducible refine (ha _).mono ?_); rintro e x1 ⟨rfl, b1⟩)
  go_ret
  exact ⟨rfl, below_on (below_on (below_alloc W _) b1) (below_alloc _ _)⟩
set_option maxRecDepth 100000 in
theorem none_walk (W : World) : Calls Try.prog 4 #[] W fun e w' => e = .returned (.bool true) ∧ Below W.heap.size W w' := by
  have ha := at_nil W
  have hb := fun y => begun_any y
  have h1 := fun y => append_nil 0 0 ⟨#[]⟩ y
  have h2 := fun y => set_nil 0 0 ⟨#[]⟩ y
  have h3 := fun y => len_nil y
  have h4 := fun y => words_nil y
  have h5 := fun y => nulls_nil y
  go_enter Try.func4, Try.ntmps4
  go_wp2_with (first
    | (go_at_call 12; (with_reducible refine ha.mono ?_); rintro e x1 ⟨rfl, b1⟩)
    | (go_at_call 6; (with_reducible refine (hb _).mono ?_); rintro e x2 ⟨rfl, b2⟩)
    | (go_at_call 10; (with_reducible refine (h1 _).mono ?_); rintro e x3 ⟨rfl, b3⟩)
    | (go_at_call 11; (with_reducible refine (h2 _).mono ?_); rintro e x4 ⟨rfl, b4⟩)
    | (go_at_call 14; (with_reducible refine (h3 _).mono ?_); rintro e x5 ⟨rfl, hx⟩; subst x5)
    | (go_at_call 15; (with_reducible refine (h4 _).mono ?_); rintro e x6 ⟨rfl, hx⟩; subst x6)
    | (go_at_call 16; (with_reducible refine (h5 _).mono ?_); rintro e x7 ⟨rfl, hx⟩; subst x7))
  go_ret
  exact ⟨rfl, below_on (below_on (below_on (below_on b1 (below_alloc _ _)) b2) b3) b4⟩
end Go.Proofs.Ytglfmbpcapendaa.S
