import Derived.Test.YthkggkndglbdkaaR
import Derived.Deep.LoopGhost
namespace Go.Proofs.Ythkggkndglbdkaa.S
open Go Go.RowKit Go.Shelf Go.Proofs Go.Proofs.Ythkggkndglbdkaa
attribute [local go_sem] eql26n eql26f

theorem all_nil (W : World) : Calls Try.prog 22 #[.pointer none] W fun e w' => e = .returned (.pointer none) ∧ w' = W := by
  go_enter Try.func22, Try.ntmps22
  go_wp2
  go_ret
  exact ⟨rfl, rfl⟩
theorem mfind_nil (s : ByteArray) (W : World) : Calls Try.prog 33 #[.pointer none, .string s] W fun e w' => e = .returned (.tuple #[.pointer none, (Value.int .i64 (0))]) ∧ w' = W := by
  go_enter Try.func33, Try.ntmps33
  go_wp2
  go_ret2
  exact ⟨rfl, rfl⟩
theorem tree_nil (W : World) : Calls Try.prog 29 #[.pointer none] W fun e w' => e = .returned (.pointer none) ∧ w' = W := by
  go_enter Try.func29, Try.ntmps29
  go_wp2
  go_ret
  exact ⟨rfl, rfl⟩
set_option maxRecDepth 100000 in
set_option maxHeartbeats 1000000 in
theorem get_nil (s : ByteArray) (W : World) : Calls Try.prog 20 #[.pointer none, .string s] W fun e w' => e = .returned (.tuple #[(Value.int .i64 (0)), .bool false]) ∧ Below W.heap.size W w' := by
  have fn := mfind_nil s
  go_enter_defers Try.func20, Try.ntmps20
  go_wp2_with (go_at_call 33; (with_reducible refine (fn _).mono ?_); rintro e x1 ⟨rfl, hx1⟩; subst x1)
  refine leaves_cons (f := 32) (args := #[]) (by simp) (by simp [go_sem]) ?_
  refine (getD_any _).mono ?_
  rintro e u' w'' ⟨rfl, rfl, rfl⟩
  exact ⟨_, results_tmp2 rfl _ _ _, rfl, below_alloc _ _⟩
set_option maxRecDepth 100000 in
set_option maxHeartbeats 1000000 in
theorem del_nil (s : ByteArray) (W : World) : Calls Try.prog 23 #[.pointer none, .string s] W fun e w' => e = .returned (.bool false) ∧ Below W.heap.size W w' := by
  go_enter_defers Try.func23, Try.ntmps23
  go_wp2_with fail
  refine leaves_cons (f := 36) (args := #[]) (by simp) (by simp [go_sem]) ?_
  refine (delD_any _).mono ?_
  rintro e u' w'' ⟨rfl, rfl, rfl⟩
  exact ⟨_, results_tmp rfl _ _ _, rfl, .refl _ _⟩
theorem len_nil (W : World) : Calls Try.prog 17 #[.pointer none] W fun e w' => e = .returned (Value.int .i64 (0)) ∧ w' = W := by
  have cn := count_any (M := 0) .nil none 0 W rfl
  have ht := tree_nil W
  go_enter Try.func17, Try.ntmps17
  go_wp2_with (first
    | (go_at_call 29; (with_reducible refine ht.mono ?_); rintro e x1 ⟨rfl, hx1⟩; subst x1)
    | (go_at_call 30; (with_reducible refine cn.mono ?_); rintro e x1 ⟨rfl, hx1⟩; subst x1))
  go_ret
  exact ⟨rfl, rfl⟩
set_option maxRecDepth 100000 in
set_option maxHeartbeats 1000000 in
theorem at_nil (W : World) : Calls Try.prog 25 #[.pointer none, (Value.int .i64 (0))] W fun e w' => e = .returned (.tuple #[.string ⟨#[]⟩, (Value.int .i64 (0)), .bool false]) ∧ Below W.heap.size W w' := by
  have ht := tree_nil W
  have hat := at_any (M := 0) 0 .nil none 0 (by omega) (by omega) (by decide) W rfl
  go_enter Try.func25, Try.ntmps25
  go_wp2_with (first
    | (go_at_call 29; (with_reducible refine ht.mono ?_); rintro e x1 ⟨rfl, hx1⟩; subst x1)
    | (go_at_call 39; (with_reducible refine hat.mono ?_); rintro e x1 ⟨hx1, q, rfl, hq⟩; subst x1; obtain rfl : q = none := hq))
  go_region
  all_goals go_wp2_with fail
  all_goals go_ret3
  all_goals exact ⟨rfl, by first | exact ((below_alloc W _).alloc (by simp) _).drew | exact ((Below.refl _ W).drew.alloc (by simp) _).alloc (by simp) _⟩
theorem add_nild (s : ByteArray) (W : World) : Calls Try.prog 9 #[.pointer none, .string s] W fun e w' => e = .returned (.bool false) ∧ w' = W := by
  go_enter Try.func9, Try.ntmps9
  go_wp2
  go_ret
  exact ⟨rfl, rfl⟩
theorem take_nild (s : ByteArray) (W : World) : Calls Try.prog 10 #[.pointer none, .string s] W fun e w' => e = .returned (.bool false) ∧ Below W.heap.size W w' := by
  have hall := all_nil W
  have hget := get_nil s W
  have hdel := del_nil s
  go_enter Try.func10, Try.ntmps10
  go_wp2_with (first
    | (go_at_call 22; (with_reducible refine hall.mono ?_); rintro e w' ⟨rfl, hw⟩; subst w')
    | (go_at_call 20; (with_reducible refine hget.mono ?_); rintro e x2 ⟨rfl, b2⟩)
    | (go_at_call 23; (with_reducible refine (hdel _).mono ?_); rintro e x3 ⟨rfl, b3⟩))
  go_ret
  exact ⟨rfl, below_on b2 b3⟩
theorem dlen_nild (W : World) : Calls Try.prog 12 #[.pointer none] W fun e w' => e = .returned (Value.int .i64 (0)) ∧ w' = W := by
  have hall := all_nil W
  have hl := len_nil W
  go_enter Try.func12, Try.ntmps12
  go_wp2_with (first
    | (go_at_call 22; (with_reducible refine hall.mono ?_); rintro e w' ⟨rfl, hw⟩; subst w')
    | (go_at_call 17; (with_reducible refine hl.mono ?_); rintro e w' ⟨rfl, hw⟩; subst w'))
  go_ret
  exact ⟨rfl, rfl⟩
theorem rank_nild (s : ByteArray) (W : World) : Calls Try.prog 13 #[.pointer none, .string s] W fun e w' => e = .returned (.tuple #[(Value.int .i64 (0)), .bool false]) ∧ Below W.heap.size W w' := by
  have hall := all_nil W
  have hget := get_nil s W
  go_enter Try.func13, Try.ntmps13
  go_wp2_with (first
    | (go_at_call 22; (with_reducible refine hall.mono ?_); rintro e w' ⟨rfl, hw⟩; subst w')
    | (go_at_call 20; (with_reducible refine hget.mono ?_); rintro e x2 ⟨rfl, b2⟩))
  go_ret2
  exact ⟨rfl, b2⟩
theorem at_nild (W : World) : Calls Try.prog 14 #[.pointer none, (Value.int .i64 (0))] W fun e w' => e = .returned (.tuple #[.string ⟨#[]⟩, .bool false]) ∧ Below W.heap.size W w' := by
  have hall := all_nil W
  have hat := at_nil W
  go_enter Try.func14, Try.ntmps14
  go_wp2_with (first
    | (go_at_call 22; (with_reducible refine hall.mono ?_); rintro e w' ⟨rfl, hw⟩; subst w')
    | (go_at_call 25; (with_reducible refine hat.mono ?_); rintro e x2 ⟨rfl, b2⟩))
  go_ret2
  exact ⟨rfl, b2⟩
theorem span_nild (op : Int) (s : ByteArray) (W : World) : Calls Try.prog 16 #[.pointer none, (Value.int .i64 (op)), .string s] W fun e w' => e = .returned (.tuple #[(Value.int .i64 (0)), (Value.int .i64 (0)), .bool false]) ∧ w' = W := by
  go_enter Try.func16, Try.ntmps16
  go_wp2
  go_ret3
  exact ⟨rfl, rfl⟩
abbrev wx : K 1 := ⟨⟨#[120]⟩, by decide⟩
abbrev we : K 1 := ⟨⟨#[]⟩, by decide⟩
set_option maxRecDepth 100000 in
set_option maxHeartbeats 1000000 in
theorem none_walk (W : World) : Calls Try.prog 5 #[] W fun e W' => e = .returned (.bool true) ∧ Below W.heap.size W W' := by
  have z := zero_dm 1 W
  have bz := below_alloc W Z31
  obtain ⟨mb, hmb⟩ : ∃ mb, W.heap.size = mb := ⟨_, rfl⟩
  rw [hmb] at z bz
  have z0 := z.lt
  have A1 := fun y => rank_nild ⟨#[120]⟩ y
  have A2 := fun y => at_nild y
  have A3 := fun y => span_nild 1 ⟨#[120]⟩ y
  have A4 : ∀ y, Dm (M := 1) W mb [] y → Calls Try.prog 16 #[(Value.pointer (some ⟨mb, 0, none⟩)), (Value.int .i64 (4)), .string ⟨#[120]⟩] y fun e w' => e = .returned (.tuple #[(Value.int .i64 (0)), (Value.int .i64 (0)), .bool true]) ∧ Below y.heap.size y w' := fun y h => span_any 4 wx h (by unfold isSp; omega)
  have A5 := fun y => begun_any y
  have A6 := fun y => add_nild ⟨#[120]⟩ y
  have A7 := fun y => take_nild ⟨#[120]⟩ y
  have A8 := fun y => dlen_nild y
  have A9 : ∀ y, Dm (M := 1) W mb [] y → Calls Try.prog 9 #[(Value.pointer (some ⟨mb, 0, none⟩)), .string ⟨#[]⟩] y fun e w' => e = .returned (.bool true) ∧ Dm W mb [(we, 1)] w' ∧ Chg (fun b => b = mb) y w' := fun y h => add_any we h (by simp) (by rw [tm_nil]; omega)
  have A10 : ∀ y, Dm W mb [(we, 1)] y → Calls Try.prog 12 #[(Value.pointer (some ⟨mb, 0, none⟩))] y fun e w' => e = .returned (Value.int .i64 (1)) ∧ w' = y := fun y h => dlen_any h
  rw [hmb]
  go_enter Try.func5, Try.ntmps5
  go_wp2_with (first
    | (go_at_call 13; (with_reducible refine (A1 _).mono ?_); rintro e x1 ⟨rfl, b1⟩; have z1 := z.later b1; clear z)
    | (go_at_call 14; (with_reducible refine (A2 _).mono ?_); rintro e x2 ⟨rfl, b2⟩; have z2 := z1.later b2; clear z1; have g2 := below_on b1 b2)
    | (go_at_call 16; (with_reducible refine (A3 _).mono ?_); rintro e x3 ⟨rfl, hx⟩; subst x3)
    | (go_at_call 16; (with_reducible refine (A4 _ z2).mono ?_); rintro e x4 ⟨rfl, b4⟩; have z4 := z2.later b4; clear z2; have g4 := below_on g2 b4)
    | (go_at_call 7; (with_reducible refine (A5 _).mono ?_); rintro e x5 ⟨rfl, b5⟩; have z5 := z4.later b5; clear z4; have g5 := below_on g4 b5)
    | (go_at_call 9; (with_reducible refine (A6 _).mono ?_); rintro e x6 ⟨rfl, hx⟩; subst x6)
    | (go_at_call 10; (with_reducible refine (A7 _).mono ?_); rintro e x7 ⟨rfl, b7⟩; have z7 := z5.later b7; clear z5; have g7 := below_on g5 b7)
    | (go_at_call 12; (with_reducible refine (A8 _).mono ?_); rintro e x8 ⟨rfl, hx⟩; subst x8)
    | (go_at_call 9; (with_reducible refine (A9 _ z7).mono ?_); rintro e x9 ⟨rfl, d9, c9⟩; clear z7)
    | (go_at_call 12; (with_reducible refine (A10 _ d9).mono ?_); rintro e x10 ⟨rfl, hx⟩; subst x10))
  go_ret
  exact ⟨rfl, (bz.trans (g7.mono (by rw [← hmb]; exact (below_alloc W Z31).size))).trans (chg_below c9 (Nat.le_trans (Nat.le_of_eq hmb.symm) (Nat.le_trans (below_alloc W Z31).size g7.size)) (Nat.le_refl _))⟩
end Go.Proofs.Ythkggkndglbdkaa.S
