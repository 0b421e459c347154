import Derived.Test.YtjlnfeableleeaaG
namespace Go.Proofs.Ytjlnfeableleeaa
open Go Go.RowKit Go.Shelf Go.Proofs
attribute [local go_sem] eql26n eql26f eql32f eql34f eql37f eql42n eql42f wide_fn wide_depth

theorem row_slice {W : World} {base e size : Nat} {v : Value} {n : Nat} {xs : List Value} (h : W.ownsRow base e size v n xs) : ∃ p k c, v = .slice p k c := by
  rcases h.2 with ⟨rfl, _⟩ | ⟨g, cap, cur, rfl, _⟩
  · exact ⟨_, _, _, rfl⟩
  · exact ⟨_, _, _, rfl⟩

/-- slices.Clone, of ints. -/
theorem clone_any (s : Value) (xs : List Int) (B : Nat → Prop) (hlen : xs.length ≤ 1000000) (W : World) (h : Ints W s xs B) :
    Calls Try.prog 34 #[s] W fun e W' => ∃ p k c, e = .returned (.slice p k c) ∧ Row W' W.heap.size (.slice p k c) xs ∧ Below W.heap.size W W' := by
  obtain ⟨i0, hi, hz0, hz1, hz2⟩ := info_parts info3
  rcases h with ⟨rfl, rfl⟩ | ⟨b, off, cap, rfl, hb, hx⟩
  · refine (Try.slices_Clone_nil_f34 0 0 W).mono ?_
    rintro e w' ⟨rfl, rfl⟩
    exact ⟨_, _, _, rfl, World.ownsRow_nil _ _ _ _, .refl _ _⟩
  · refine (Try.slices_Clone_f34 i0 (.int .i64 0) 1 8 hi hz0 hz1 hz2 rfl (by decide) (by intro w; exact Try.sizeOf3 w) b off xs.length cap (xs.map (Value.int .i64)) W (by simp) (by unfold maxLen; omega) (by omega) ?_ ?_).mono ?_
    · intro j u hj
      have hjl : j < xs.length := by
        rcases Nat.lt_or_ge j xs.length with h | h
        · exact h
        · rw [List.getElem?_eq_none (by simpa using h)] at hj; cases hj
      rw [hx j hjl]
      simpa [hjl] using hj
    · intro u hu
      obtain ⟨x, _, rfl⟩ := List.mem_map.1 hu
      rfl
    · rintro e w' ⟨v', rfl, h1, h2, h3⟩
      obtain ⟨p, k, c, rfl⟩ := row_slice h1
      exact ⟨p, k, c, rfl, h1, h3⟩

set_option maxHeartbeats 1000000 in
/-- **Of.** -/
theorem sq_of (s : Value) (xs : List Int) (B : Nat → Prop) (hlen : xs.length ≤ 1000000) (W : World) (h : Ints W s xs B) : Calls Try.prog 10 #[s] W (Makes xs W) := by
  have hcl := clone_any s xs B hlen W h
  have hs : ∃ p k c, s = .slice p k c := by
    rcases h with ⟨rfl, _⟩ | ⟨_, _, _, rfl, _⟩
    · exact ⟨_, _, _, rfl⟩
    · exact ⟨_, _, _, rfl⟩
  obtain ⟨p0, k0, c0, rfl⟩ := hs
  clear h
  go_enter Try.func10, Try.ntmps10
  go_wp2_with (go_at_call 34; refine hcl.mono ?_; rintro e w1 ⟨p, k, c, rfl, hr, hb⟩)
  go_ret
  have hi := hr.ints
  refine ⟨35, _, rfl, ⟨_, _, .inl (of_gives w1.heap.size (.slice p k c) xs _ hlen), ?_, Cell.new w1 _ _, hi.of (fun b x => Below.heap_alloc _ _ _ (hr.lt' b x))⟩, hb.alloc hb.size _⟩
  rintro b (rfl | x)
  · simp
  · have := hr.lt' b x; simp; omega

/-! ### The function values that the statements hand in -/
theorem fn_of (k : Nat) (h : ∀ a w, (callFunc k a).run Try.prog w = .ok (.enter k a) w) (args : Array Value) (w : World) (R : Ending → World → Prop) (hc : Calls Try.prog k (args ++ #[]) w R) : CallsV Try.prog (.func (.func k) #[] #[]) args w R :=
  .inl ⟨k, #[], rfl, h, hc⟩

set_option maxHeartbeats 400000 in
theorem c31 (x : Int) (w : World) : CallsV Try.prog (.func (.func 31) #[] #[]) (enc1 x) w fun e w' => e = .returned (Value.int .i64 (wrap64 (x * 2))) ∧ w' = w := by
  refine fn_of 31 (enters_of Try.func31 (by kernel_rfl) rfl) _ _ _ ?_
  show Calls Try.prog 31 #[(Value.int .i64 (x))] w _
  go_enter Try.func31, Try.ntmps31
  go_wp2
  go_ret
  exact ⟨rfl, rfl⟩
set_option maxHeartbeats 400000 in
theorem c32 (a b : Int) (w : World) : CallsV Try.prog (.func (.func 32) #[] #[]) #[(Value.int .i64 (a)), (Value.int .i64 (b))] w fun e w' => e = .returned (.bool (decide (a < b))) ∧ w' = w := by
  refine fn_of 32 (enters_of Try.func32 (by kernel_rfl) rfl) _ _ _ ?_
  show Calls Try.prog 32 #[(Value.int .i64 (a)), (Value.int .i64 (b))] w _
  go_enter Try.func32, Try.ntmps32
  go_wp2
  go_ret
  exact ⟨rfl, rfl⟩
set_option maxHeartbeats 400000 in
theorem c33 (a b : Int) (w : World) : CallsV Try.prog (.func (.func 33) #[] #[]) #[(Value.int .i64 (a)), (Value.int .i64 (b))] w fun e w' => e = .returned (Value.int .i64 (wrap64 (a + b))) ∧ w' = w := by
  refine fn_of 33 (enters_of Try.func33 (by kernel_rfl) rfl) _ _ _ ?_
  show Calls Try.prog 33 #[(Value.int .i64 (a)), (Value.int .i64 (b))] w _
  go_enter Try.func33, Try.ntmps33
  go_wp2
  go_ret
  exact ⟨rfl, rfl⟩
set_option maxHeartbeats 400000 in
theorem c28 (x : Int) (w : World) : CallsV Try.prog (.func (.func 28) #[] #[]) (enc1 x) w fun e w' => e = .returned (Value.int .i64 (x)) ∧ w' = w := by
  refine fn_of 28 (enters_of Try.func28 (by kernel_rfl) rfl) _ _ _ ?_
  show Calls Try.prog 28 #[(Value.int .i64 (x))] w _
  go_enter Try.func28, Try.ntmps28
  go_wp2
  go_ret
  exact ⟨rfl, rfl⟩
set_option maxHeartbeats 400000 in
theorem c29 (x : Int) (w : World) : CallsV Try.prog (.func (.func 29) #[] #[]) (enc1 x) w fun e w' => e = .returned (.bool true) ∧ w' = w := by
  refine fn_of 29 (enters_of Try.func29 (by kernel_rfl) rfl) _ _ _ ?_
  show Calls Try.prog 29 #[(Value.int .i64 (x))] w _
  go_enter Try.func29, Try.ntmps29
  go_wp2
  go_ret
  exact ⟨rfl, rfl⟩
set_option maxHeartbeats 400000 in
theorem c30 (a b : Int) (w : World) : CallsV Try.prog (.func (.func 30) #[] #[]) #[(Value.int .i64 (a)), (Value.int .i64 (b))] w fun e w' => e = .returned (Value.int .i64 (0)) ∧ w' = w := by
  refine fn_of 30 (enters_of Try.func30 (by kernel_rfl) rfl) _ _ _ ?_
  show Calls Try.prog 30 #[(Value.int .i64 (a)), (Value.int .i64 (b))] w _
  go_enter Try.func30, Try.ntmps30
  go_wp2
  go_ret
  exact ⟨rfl, rfl⟩
set_option maxHeartbeats 400000 in
theorem c17 (x : Int) (w : World) : CallsV Try.prog (.func (.func 17) #[] #[]) (enc1 x) w fun e w' => e = .returned (.bool (x.tmod 2 != 0)) ∧ w' = w := by
  refine fn_of 17 (enters_of Try.func17 (by kernel_rfl) rfl) _ _ _ ?_
  show Calls Try.prog 17 #[(Value.int .i64 (x))] w _
  go_enter Try.func17, Try.ntmps17
  go_wp2
  go_ret
  exact ⟨rfl, rfl⟩
set_option maxHeartbeats 400000 in
theorem c25 (x : Int) (w : World) : CallsV Try.prog (.func (.func 25) #[] #[]) (enc1 x) w fun e w' => e = .returned (.bool (x.tmod 2 == 0)) ∧ w' = w := by
  refine fn_of 25 (enters_of Try.func25 (by kernel_rfl) rfl) _ _ _ ?_
  show Calls Try.prog 25 #[(Value.int .i64 (x))] w _
  go_enter Try.func25, Try.ntmps25
  go_wp2
  go_ret
  exact ⟨rfl, rfl⟩
set_option maxHeartbeats 400000 in
theorem c26 (x : Int) (w : World) : CallsV Try.prog (.func (.func 26) #[] #[]) (enc1 x) w fun e w' => e = .returned (.bool (x.tmod 3 == 0)) ∧ w' = w := by
  refine fn_of 26 (enters_of Try.func26 (by kernel_rfl) rfl) _ _ _ ?_
  show Calls Try.prog 26 #[(Value.int .i64 (x))] w _
  go_enter Try.func26, Try.ntmps26
  go_wp2
  go_ret
  exact ⟨rfl, rfl⟩
set_option maxHeartbeats 400000 in
theorem c27 (x : Int) (w : World) : CallsV Try.prog (.func (.func 27) #[] #[]) (enc1 x) w fun e w' => e = .returned (.bool (x.tmod 6 == 0)) ∧ w' = w := by
  refine fn_of 27 (enters_of Try.func27 (by kernel_rfl) rfl) _ _ _ ?_
  show Calls Try.prog 27 #[(Value.int .i64 (x))] w _
  go_enter Try.func27, Try.ntmps27
  go_wp2
  go_ret
  exact ⟨rfl, rfl⟩
set_option maxHeartbeats 400000 in
theorem c21 (a x : Int) (w : World) : CallsV Try.prog (.func (.func 21) #[] #[]) #[(Value.int .i64 (a)), (Value.int .i64 (x))] w fun e w' => e = .returned (Value.int .i64 (wrap64 (wrap64 (a * 3) + x))) ∧ w' = w := by
  refine fn_of 21 (enters_of Try.func21 (by kernel_rfl) rfl) _ _ _ ?_
  show Calls Try.prog 21 #[(Value.int .i64 (a)), (Value.int .i64 (x))] w _
  go_enter Try.func21, Try.ntmps21
  go_wp2
  go_ret
  exact ⟨rfl, rfl⟩
set_option maxHeartbeats 400000 in
theorem c15 (kb : Nat) (k : Int) (x : Int) (w : World) (h : Cell w kb (Value.int .i64 (k))) : CallsV Try.prog (.func (.func 15) #[] #[(Value.pointer (some ⟨kb, 0, none⟩))]) (enc1 x) w fun e w' => e = .returned (Value.int .i64 (wrap64 (wrap64 (x * 2) + k))) ∧ w' = w := by
  refine .inl ⟨15, _, rfl, enters_of Try.func15 (by kernel_rfl) rfl, ?_⟩
  show Calls Try.prog 15 #[(Value.int .i64 (x)), (Value.pointer (some ⟨kb, 0, none⟩))] w _
  obtain ⟨h1, h2⟩ := h
  go_enter Try.func15, Try.ntmps15
  go_wp2
  go_ret
  exact ⟨rfl, rfl⟩
set_option maxHeartbeats 400000 in
theorem c22 (ab : Nat) (n : Int) (x : Int) (w : World) (h : Cell w ab (Value.int .i64 (n))) : CallsV Try.prog (.func (.func 22) #[] #[(Value.pointer (some ⟨ab, 0, none⟩))]) (enc1 x) w fun e w' => e = .returned (Value.int .i64 (x)) ∧ w' = w.setCell ⟨ab, 0, none⟩ (Value.int .i64 (wrap64 (n + 1))) := by
  refine .inl ⟨22, _, rfl, enters_of Try.func22 (by kernel_rfl) rfl, ?_⟩
  show Calls Try.prog 22 #[(Value.int .i64 (x)), (Value.pointer (some ⟨ab, 0, none⟩))] w _
  obtain ⟨h1, h2⟩ := h
  go_enter Try.func22, Try.ntmps22
  go_wp2
  go_ret
  exact ⟨rfl, rfl⟩
set_option maxHeartbeats 400000 in
theorem c24 (a b : Int) (w : World) : CallsV Try.prog (.func (.func 24) #[] #[]) #[(Value.int .i64 (a)), (Value.int .i64 (b))] w fun e w' => e = .returned (.bool (decide (wrap64 (a.tdiv 10) < wrap64 (b.tdiv 10)))) ∧ w' = w := by
  refine fn_of 24 (enters_of Try.func24 (by kernel_rfl) rfl) _ _ _ ?_
  show Calls Try.prog 24 #[(Value.int .i64 (a)), (Value.int .i64 (b))] w _
  go_enter Try.func24, Try.ntmps24
  go_wp2
  go_ret
  exact ⟨rfl, rfl⟩
end Go.Proofs.Ytjlnfeableleeaa
