/- begun. -/
import Derived.Test.YtglfmbpcapendaaO8
namespace Go.Proofs.Ytglfmbpcapendaa.S
open Go Go.RowKit Go.Shelf Go.Proofs Go.Proofs.Ytglfmbpcapendaa

section
variable {cb : Nat} {kind : Int} {l : List T3} {v : Value} {A B : World} {n : Nat}
theorem Col.below (h : Col cb kind l v A) (hc : Chg (fun b => b = cb ∨ v.ownBlock = some b) A B) (hn : n ≤ A.heap.size) (hcb : n ≤ cb) : Below n A B :=
  hc.below hn (fun b hb hs => by
    rcases hs with e | e
    · omega
    · have := (h.row.lt b e).1; omega)
end
abbrev bx : ByteArray := ⟨#[120]⟩
abbrev by' : ByteArray := ⟨#[121]⟩
abbrev b0 : ByteArray := ⟨#[]⟩
set_option maxRecDepth 100000 in
set_option maxHeartbeats 1000000 in
theorem begun_any (W : World) : Calls Try.prog 6 #[] W fun e w' => e = .returned (.bool true) ∧ Below W.heap.size W w' := by
  obtain ⟨cb, hcb⟩ : ∃ cb, W.heap.size = cb := ⟨_, rfl⟩
  have hnew := col_new 2 (.inr rfl) W
  have hno := fun y => col_new_no 0 (by decide) (by decide) y
  rw [hcb] at hnew
  have i1 : inC 2 (2, 0, bx) = true := by kernel_rfl
  have i2 : inC 2 (0, 0, b0) = true := by kernel_rfl
  have i3 : inC 2 (2, 0, by') = true := by kernel_rfl
  have i4 : inC 2 (1, 0, b0) = false := by kernel_rfl
  have A1 : ∀ y v, Col cb 2 [] v y → Calls Try.prog 10 #[(Value.pointer (some ⟨cb, 0, none⟩)), (Value.agg #[Value.int .i64 (2), Value.int .i64 (0), Value.string (bx)])] y fun e w' => e = .returned (.bool true) ∧ ∃ v', Col cb 2 [(2, 0, bx)] v' w' ∧ Below cb y w' := fun y v h =>
    (col_app h (by simp) (2, 0, bx) (by decide) i1).mono (fun e w' ⟨he, v', a, _, c⟩ => ⟨he, v', a, h.below c (Nat.le_of_lt h.lt) (Nat.le_refl _)⟩)
  have A2 : ∀ y v, Col cb 2 [(2, 0, bx)] v y → Calls Try.prog 10 #[(Value.pointer (some ⟨cb, 0, none⟩)), (Value.agg #[Value.int .i64 (0), Value.int .i64 (0), Value.string (b0)])] y fun e w' => e = .returned (.bool true) ∧ ∃ v', Col cb 2 [(2, 0, bx), (0, 0, b0)] v' w' ∧ Below cb y w' := fun y v h =>
    (col_app h (by simp) (0, 0, b0) (by decide) i2).mono (fun e w' ⟨he, v', a, _, c⟩ => ⟨he, v', a, h.below c (Nat.le_of_lt h.lt) (Nat.le_refl _)⟩)
  have A3 : ∀ y v, Col cb 2 [(2, 0, bx), (0, 0, b0)] v y → Calls Try.prog 10 #[(Value.pointer (some ⟨cb, 0, none⟩)), (Value.agg #[Value.int .i64 (2), Value.int .i64 (0), Value.string (bx)])] y fun e w' => e = .returned (.bool true) ∧ ∃ v', Col cb 2 [(2, 0, bx), (0, 0, b0), (2, 0, bx)] v' w' ∧ Below cb y w' := fun y v h =>
    (col_app h (by simp) (2, 0, bx) (by decide) i1).mono (fun e w' ⟨he, v', a, _, c⟩ => ⟨he, v', a, h.below c (Nat.le_of_lt h.lt) (Nat.le_refl _)⟩)
  have A4 : ∀ y v, Col cb 2 [(2, 0, bx), (0, 0, b0), (2, 0, bx)] v y → Calls Try.prog 12 #[(Value.pointer (some ⟨cb, 0, none⟩)), (Value.int .i64 (2))] y fun e w' => e = .returned (.tuple #[(Value.agg #[Value.int .i64 (2), Value.int .i64 (0), Value.string (bx)]), .bool true]) ∧ Below y.heap.size y w' := fun y v h => col_at h 2 (by decide)
  have A5 : ∀ y v, Col cb 2 [(2, 0, bx), (0, 0, b0), (2, 0, bx)] v y → Calls Try.prog 10 #[(Value.pointer (some ⟨cb, 0, none⟩)), (Value.agg #[Value.int .i64 (1), Value.int .i64 (0), Value.string (b0)])] y fun e w' => e = .returned (.bool false) ∧ Below y.heap.size y w' := fun y v h => col_app_no h (1, 0, b0) (by decide) i4
  have A6 : ∀ y v, Col cb 2 [(2, 0, bx), (0, 0, b0), (2, 0, bx)] v y → Calls Try.prog 14 #[(Value.pointer (some ⟨cb, 0, none⟩))] y fun e w' => e = .returned (Value.int .i64 (3)) ∧ w' = y := fun y v h => col_len h
  have A7 : ∀ y v, Col cb 2 [(2, 0, bx), (0, 0, b0), (2, 0, bx)] v y → Calls Try.prog 15 #[(Value.pointer (some ⟨cb, 0, none⟩))] y fun e w' => e = .returned (Value.int .i64 (1)) ∧ w' = y := fun y v h => col_words h [wd bx] (by simp) (fun s => by simp; exact eq_comm)
  have A8 : ∀ y v, Col cb 2 [(2, 0, bx), (0, 0, b0), (2, 0, bx)] v y → Calls Try.prog 16 #[(Value.pointer (some ⟨cb, 0, none⟩))] y fun e w' => e = .returned (Value.int .i64 (1)) ∧ w' = y := fun y v h => col_nulls h
  have A9 : ∀ y v, Col cb 2 [(2, 0, bx), (0, 0, b0), (2, 0, bx)] v y → Calls Try.prog 11 #[(Value.pointer (some ⟨cb, 0, none⟩)), (Value.int .i64 (1)), (Value.agg #[Value.int .i64 (2), Value.int .i64 (0), Value.string (by')])] y fun e w' => e = .returned (.bool true) ∧ Col cb 2 [(2, 0, bx), (2, 0, by'), (2, 0, bx)] v w' ∧ Below cb y w' := fun y v h =>
    (col_set h (by decide) 1 (by decide) (2, 0, by') (by decide) i3).mono (fun e w' ⟨he, a, c⟩ => ⟨he, a, h.below c (Nat.le_of_lt h.lt) (Nat.le_refl _)⟩)
  have hxy : wd bx ≠ wd by' := by decide +kernel
  have A10 : ∀ y v, Col cb 2 [(2, 0, bx), (2, 0, by'), (2, 0, bx)] v y → Calls Try.prog 15 #[(Value.pointer (some ⟨cb, 0, none⟩))] y fun e w' => e = .returned (Value.int .i64 (2)) ∧ w' = y := fun y v h => col_words h [wd bx, wd by'] (by simp [hxy]) (fun s => by simp; grind)
  have A11 : ∀ y v, Col cb 2 [(2, 0, bx), (2, 0, by'), (2, 0, bx)] v y → Calls Try.prog 16 #[(Value.pointer (some ⟨cb, 0, none⟩))] y fun e w' => e = .returned (Value.int .i64 (0)) ∧ w' = y := fun y v h => col_nulls h
  clear i1 i2 i3 i4 hxy
  go_enter Try.func6, Try.ntmps6
  go_wp2_with (first
    | (go_at_call 7; (with_reducible refine hnew.mono ?_); rintro e x0 ⟨rfl, k0, g0⟩; clear hnew; have hsz := k0.lt)
    | (go_at_call 10; (with_reducible refine (A1 _ _ k0).mono ?_); rintro e x1 ⟨rfl, v1, k1, b1⟩; clear k0 A1)
    | (go_at_call 10; (with_reducible refine (A2 _ _ k1).mono ?_); rintro e x2 ⟨rfl, v2, k2, b2⟩; clear k1 A2)
    | (go_at_call 10; (with_reducible refine (A3 _ _ k2).mono ?_); rintro e x3 ⟨rfl, v3, k3, b3⟩; clear k2 A3; have hs3 := k3.lt)
    | (go_at_call 12; (with_reducible refine (A4 _ _ k3).mono ?_); rintro e x4 ⟨rfl, b4⟩; have k4 := k3.later b4; clear k3 A4; have hs4 := k4.lt; have nb : ∃ B, x4.heap.size = B := ⟨_, rfl⟩; obtain ⟨B, hB⟩ := nb; have k5 := k4.later (below_alloc x4 (.cells #[.int .i64 2, .int .i64 0, .string bx] 28)); have n5 := heap_alloc_new x4 (.cells #[.int .i64 2, .int .i64 0, .string bx] 28); rw [hB] at n5; have m2 := nd_cell n5 2; clear k4)
    | (go_at_call 10; (with_reducible refine (A5 _ _ k5).mono ?_); rintro e x5 ⟨rfl, b5⟩; have k6 := k5.later b5; clear k5 A5; have m3 := (World.cell?_of_block (a := ⟨B, 2, none⟩) (b5.block B (by simp; omega))).trans m2)
    | (go_at_call 14; (with_reducible refine (A6 _ _ k6).mono ?_); rintro e x6 ⟨rfl, hx⟩; subst x6)
    | (go_at_call 15; (with_reducible refine (A7 _ _ k6).mono ?_); rintro e x7 ⟨rfl, hx⟩; subst x7)
    | (go_at_call 16; (with_reducible refine (A8 _ _ k6).mono ?_); rintro e x8 ⟨rfl, hx⟩; subst x8)
    | (go_at_call 11; (with_reducible refine (A9 _ _ k6).mono ?_); rintro e x9 ⟨rfl, k9, b9⟩; clear k6)
    | (go_at_call 15; (with_reducible refine (A10 _ _ k9).mono ?_); rintro e x10 ⟨rfl, hx⟩; subst x10)
    | (go_at_call 16; (with_reducible refine (A11 _ _ k9).mono ?_); rintro e x11 ⟨rfl, hx⟩; subst x11)
    | (go_at_call 7; (with_reducible refine (hno _).mono ?_); rintro e x12 ⟨rfl, hx⟩; subst x12))
  go_ret
  refine ⟨rfl, ?_⟩
  rw [hcb]
  exact ((((((g0.trans b1).trans b2).trans b3).trans (b4.mono (Nat.le_of_lt hs3))).alloc (by omega) _).trans (b5.mono (by simp; omega))).trans b9
end Go.Proofs.Ytglfmbpcapendaa.S
