import Derived.Test.YthkggkndglbdkaaQ
namespace Go.Proofs.Ythkggkndglbdkaa.S
open Go Go.RowKit Go.Shelf Go.Proofs Go.Proofs.Ythkggkndglbdkaa
variable {M : Nat}

abbrev Z31 : Obj := .cells #[.nilFunc, .pointer none] 31
theorem zero_dm (M : Nat) (W : World) : Dm (M := M) W W.heap.size [] (W.alloc Z31) := by
  have hh := heap_alloc_new W Z31
  refine ⟨⟨.nilFunc, ⟨Nat.zero_le _, nd_cell hh 0, ⟨.nil, none, nd_cell hh 1, rfl, rfl⟩, fun j => frozen_of_row _ _ j _ _ hh, Srt.nil, (below_alloc W _).mono (Nat.zero_le _), ⟨_, _, hh, by decide⟩⟩, .inl rfl⟩, fun p hp => by simp at hp, by simp⟩
theorem chg_below {mb : Nat} {A B : World} (h : Chg (fun b => b = mb) A B) {n : Nat} (hn : n ≤ A.heap.size) (hm : n ≤ mb) : Below n A B := h.below hn (fun b hb e => by omega)
theorem dm_of {W0 W W' : World} {mb : Nat} {L L' : List (K M × Int)} (h : Dm W0 mb L W) (e : L = L') (hw : W = W') : Dm W0 mb L' W' := by subst e; subst hw; exact h

abbrev wb : K 2 := ⟨⟨#[98]⟩, by decide⟩
abbrev wa : K 2 := ⟨⟨#[97]⟩, by decide⟩
abbrev waa : K 2 := ⟨⟨#[97, 97]⟩, by decide⟩
set_option maxRecDepth 100000 in
theorem begun_any (W : World) : Calls Try.prog 7 #[] W fun e w' => e = .returned (.bool true) ∧ Below W.heap.size W w' := by
  have z := zero_dm 2 W
  have bz := below_alloc W Z31
  have hlt := z.lt
  obtain ⟨mb, hmb⟩ : ∃ mb, W.heap.size = mb := ⟨_, rfl⟩
  rw [hmb] at z hlt bz
  have A1 : ∀ y, Dm W mb [] y → Calls Try.prog 9 #[(Value.pointer (some ⟨mb, 0, none⟩)), .string ⟨#[98]⟩] y fun e w' => e = .returned (.bool true) ∧ Dm W mb [(wb, 1)] w' ∧ Chg (fun b => b = mb) y w' := fun y h => add_any wb h (by simp) (by rw [tm_nil]; omega)
  have e2 : insL keyOf wa (tm wa [(wb, 1)] + 1) [(wb, 1)] = [(wa, 1), (wb, 1)] := by kernel_rfl
  have e2h : has wa [(wb, 1)] = false := by kernel_rfl
  have e2t : tm wa [(wb, 1)] = 0 := by kernel_rfl
  have A2 : ∀ y, Dm W mb [(wb, 1)] y → Calls Try.prog 9 #[(Value.pointer (some ⟨mb, 0, none⟩)), .string ⟨#[97]⟩] y fun e w' => e = .returned (.bool true) ∧ Dm W mb [(wa, 1), (wb, 1)] w' ∧ Chg (fun b => b = mb) y w' := fun y h => by
    have h := add_any wa h (by simp) (by rw [e2t]; omega)
    rw [e2, e2h] at h
    exact h
  have e3 : insL keyOf wb (tm wb [(wa, 1), (wb, 1)] + 1) [(wa, 1), (wb, 1)] = [(wa, 1), (wb, 2)] := by kernel_rfl
  have e3h : has wb [(wa, 1), (wb, 1)] = true := by kernel_rfl
  have e3t : tm wb [(wa, 1), (wb, 1)] = 1 := by kernel_rfl
  have A3 : ∀ y, Dm W mb [(wa, 1), (wb, 1)] y → Calls Try.prog 9 #[(Value.pointer (some ⟨mb, 0, none⟩)), .string ⟨#[98]⟩] y fun e w' => e = .returned (.bool false) ∧ Dm W mb [(wa, 1), (wb, 2)] w' ∧ Chg (fun b => b = mb) y w' := fun y h => by
    have h := add_any wb h (by simp) (by rw [e3t]; omega)
    rw [e3, e3h] at h
    exact h
  have e4 : rankOf wb [(wa, 1), (wb, 2)] = 1 := by kernel_rfl
  have e4h : has wb [(wa, 1), (wb, 2)] = true := by kernel_rfl
  have A4 : ∀ y, Dm W mb [(wa, 1), (wb, 2)] y → Calls Try.prog 13 #[(Value.pointer (some ⟨mb, 0, none⟩)), .string ⟨#[98]⟩] y fun e w' => e = .returned (.tuple #[(Value.int .i64 (1)), .bool true]) ∧ Below y.heap.size y w' := fun y h => by
    have h := drank_any wb h
    rw [e4, e4h] at h
    exact h
  have A5 : ∀ y, Dm W mb [(wa, 1), (wb, 2)] y → Calls Try.prog 14 #[(Value.pointer (some ⟨mb, 0, none⟩)), (Value.int .i64 (0))] y fun e w' => e = .returned (.tuple #[.string ⟨#[97]⟩, .bool true]) ∧ Below y.heap.size y w' := fun y h => dat_any 0 (by omega) (by omega) h
  have e6 : spA (spF 6 waa [(wa, 1), (wb, 2)]) (spT 6 waa [(wa, 1), (wb, 2)]) = 1 := by kernel_rfl
  have e6b : spB (spF 6 waa [(wa, 1), (wb, 2)]) (spT 6 waa [(wa, 1), (wb, 2)]) = 2 := by kernel_rfl
  have A6 : ∀ y, Dm W mb [(wa, 1), (wb, 2)] y → Calls Try.prog 16 #[(Value.pointer (some ⟨mb, 0, none⟩)), (Value.int .i64 (6)), .string ⟨#[97, 97]⟩] y fun e w' => e = .returned (.tuple #[(Value.int .i64 (1)), (Value.int .i64 (2)), .bool true]) ∧ Below y.heap.size y w' := fun y h => by
    have h := span_any 6 waa h (by unfold isSp; omega)
    rw [e6, e6b] at h
    exact h
  have A7 : ∀ y, Dm W mb [(wa, 1), (wb, 2)] y → Calls Try.prog 12 #[(Value.pointer (some ⟨mb, 0, none⟩))] y fun e w' => e = .returned (Value.int .i64 (2)) ∧ w' = y := fun y h => dlen_any h
  have e8 : takeL wb [(wa, 1), (wb, 2)] = [(wa, 1), (wb, 1)] := by kernel_rfl
  have A8 : ∀ y, Dm W mb [(wa, 1), (wb, 2)] y → Calls Try.prog 10 #[(Value.pointer (some ⟨mb, 0, none⟩)), .string ⟨#[98]⟩] y fun e w' => e = .returned (.bool true) ∧ Dm W mb [(wa, 1), (wb, 1)] w' ∧ Chg (fun b => b = mb) y w' := fun y h => by
    have h := take_any wb h (by simp)
    rw [e8, e4h] at h
    exact h
  have A9 : ∀ y, Dm W mb [(wa, 1), (wb, 1)] y → Calls Try.prog 12 #[(Value.pointer (some ⟨mb, 0, none⟩))] y fun e w' => e = .returned (Value.int .i64 (2)) ∧ w' = y := fun y h => dlen_any h
  have e10 : takeL wb [(wa, 1), (wb, 1)] = [(wa, 1)] := by kernel_rfl
  have A10 : ∀ y, Dm W mb [(wa, 1), (wb, 1)] y → Calls Try.prog 10 #[(Value.pointer (some ⟨mb, 0, none⟩)), .string ⟨#[98]⟩] y fun e w' => e = .returned (.bool true) ∧ Dm W mb [(wa, 1)] w' ∧ Chg (fun b => b = mb) y w' := fun y h => by
    have h := take_any wb h (by simp)
    rw [e10, e3h] at h
    exact h
  have A11 : ∀ y, Dm W mb [(wa, 1)] y → Calls Try.prog 12 #[(Value.pointer (some ⟨mb, 0, none⟩))] y fun e w' => e = .returned (Value.int .i64 (1)) ∧ w' = y := fun y h => dlen_any h
  have e12 : has wb [(wa, 1)] = false := by kernel_rfl
  have A12 : ∀ y, Dm W mb [(wa, 1)] y → Calls Try.prog 10 #[(Value.pointer (some ⟨mb, 0, none⟩)), .string ⟨#[98]⟩] y fun e w' => e = .returned (.bool false) ∧ Chg (fun b => b = mb) y w' := fun y h => by
    have h := take_any wb h (by simp)
    rw [e12] at h
    exact h.mono (fun e w' h => ⟨h.1, h.2.2⟩)
  have hstr : (⟨#[97]⟩ == (⟨#[97]⟩ : ByteArray)) = true := by decide
  clear e2 e2h e2t e3 e3h e3t e4 e4h e6 e6b e8 e10 e12
  rw [hmb]
  go_enter Try.func7, Try.ntmps7
  go_wp2_with (first
    | (go_at_call 9; (with_reducible refine (A1 _ z).mono ?_); rintro e x1 ⟨rfl, d1, c1⟩; clear z)
    | (go_at_call 9; (with_reducible refine (A2 _ d1).mono ?_); rintro e x2 ⟨rfl, d2, c2⟩; clear d1; have g2 := chg2 c1 c2)
    | (go_at_call 9; (with_reducible refine (A3 _ d2).mono ?_); rintro e x3 ⟨rfl, d3, c3⟩; clear d2; have g3 := chg2 g2 c3)
    | (go_at_call 13; (with_reducible refine (A4 _ d3).mono ?_); rintro e x4 ⟨rfl, b4⟩; have d4 := d3.later b4; clear d3; have g4 := chg2 g3 (Chg.of_below b4))
    | (go_at_call 14; (with_reducible refine (A5 _ d4).mono ?_); rintro e x5 ⟨rfl, b5⟩; have d5 := d4.later b5; clear d4; have g5 := chg2 g4 (Chg.of_below b5))
    | (go_at_call 16; (with_reducible refine (A6 _ d5).mono ?_); rintro e x6 ⟨rfl, b6⟩; have d6 := d5.later b6; clear d5; have g6 := chg2 g5 (Chg.of_below b6))
    | (go_at_call 12; (with_reducible refine (A7 _ d6).mono ?_); rintro e x7 ⟨rfl, hx⟩; subst x7; have d7 := d6; clear d6)
    | (go_at_call 10; (with_reducible refine (A8 _ d7).mono ?_); rintro e x8 ⟨rfl, d8, c8⟩; clear d7; have g8 := chg2 g6 c8)
    | (go_at_call 12; (with_reducible refine (A9 _ d8).mono ?_); rintro e x9 ⟨rfl, hx⟩; subst x9; have d9 := d8; clear d8)
    | (go_at_call 10; (with_reducible refine (A10 _ d9).mono ?_); rintro e x10 ⟨rfl, d10, c10⟩; clear d9; have g10 := chg2 g8 c10)
    | (go_at_call 12; (with_reducible refine (A11 _ d10).mono ?_); rintro e x11 ⟨rfl, hx⟩; subst x11; have d11 := d10; clear d10)
    | (go_at_call 10; (with_reducible refine (A12 _ d11).mono ?_); rintro e x12 ⟨rfl, c12⟩; clear d11; have g12 := chg2 g10 c12))
  go_ret
  exact ⟨rfl, bz.trans (chg_below g12 (by omega) (Nat.le_refl _))⟩
end Go.Proofs.Ythkggkndglbdkaa.S
