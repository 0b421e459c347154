import Derived.Test.YtjlnfeableleeaaP
namespace Go.Proofs.Ytjlnfeableleeaa
open Go Go.RowKit Go.Shelf Go.Proofs
attribute [local go_sem] eql26n eql26f eql32f eql34f eql37f eql42n eql42f wide_fn wide_depth

theorem ints_new (W : World) (xs : List Int) (cap : Nat) : Ints (W.alloc (.cells (xs.map (Value.int .i64)).toArray 3)) (.slice (some ⟨W.heap.size, 0, none⟩) xs.length cap) xs (fun q => q = W.heap.size) :=
  .inr ⟨W.heap.size, 0, cap, rfl, rfl, fun j hj => by
    rw [World.cell?_alloc_new]
    simp [hj]⟩
theorem vals_new (W : World) (vs : List Value) (t cap : Nat) : Vals (W.alloc (.cells vs.toArray t)) (.slice (some ⟨W.heap.size, 0, none⟩) vs.length cap) vs (fun q => q = W.heap.size) :=
  .inr ⟨W.heap.size, 0, cap, rfl, rfl, fun j hj => by
    rw [World.cell?_alloc_new]
    simp [hj]⟩
theorem below_alloc (W : World) (o : Obj) : Below W.heap.size W (W.alloc o) := (Below.refl _ W).alloc (Nat.le_refl _) o
/-- One step further. -/
theorem below_on {W A B : World} (h : Below W.heap.size W A) (k : Below A.heap.size A B) : Below W.heap.size W B := h.trans (k.mono h.size)
theorem Ints.on {W W' : World} {v : Value} {xs : List Int} {B : Nat → Prop} (h : Ints W v xs B) (hB : ∀ b, B b → b < W.heap.size) (hb : Below W.heap.size W W') : Ints W' v xs B ∧ ∀ b, B b → b < W'.heap.size :=
  ⟨h.later hB hb, fun b x => Nat.lt_of_lt_of_le (hB b x) hb.size⟩

theorem mg_begun : Mg id [[1, 4], [2]] [1, 2, 4] := by
  refine ⟨[], [4], [[2]], rfl, by simp, by simp [hd], ?_⟩
  refine ⟨[[4]], [], [], rfl, by simp [hd], by simp, ?_⟩
  exact ⟨[], [], [], rfl, by simp, by simp, rfl⟩
theorem lss32 : Lss (.func (.func 32) #[] #[]) id := fun a b w => c32 a b w

set_option maxHeartbeats 1000000 in
theorem begun_merge (W : World) : Calls Try.prog 23 #[.func (.func 32) #[] #[], .slice (some ⟨W.heap.size + 2, 0, none⟩) 2 2]
    (((W.alloc (.cells #[(Value.int .i64 (1)), (Value.int .i64 (4))] 3)).alloc (.cells #[(Value.int .i64 (2))] 3)).alloc (.cells #[.slice (some ⟨W.heap.size, 0, none⟩) 2 2, .slice (some ⟨W.heap.size + 1, 0, none⟩) 1 1] 22)) (Makes [1, 2, 4] (((W.alloc (.cells #[(Value.int .i64 (1)), (Value.int .i64 (4))] 3)).alloc (.cells #[(Value.int .i64 (2))] 3)).alloc (.cells #[.slice (some ⟨W.heap.size, 0, none⟩) 2 2, .slice (some ⟨W.heap.size + 1, 0, none⟩) 1 1] 22))) := by
  have h1 := (ints_new W [1, 4] 2).of (W' := ((W.alloc (.cells #[(Value.int .i64 (1)), (Value.int .i64 (4))] 3)).alloc (.cells #[(Value.int .i64 (2))] 3)).alloc (.cells #[.slice (some ⟨W.heap.size, 0, none⟩) 2 2, .slice (some ⟨W.heap.size + 1, 0, none⟩) 1 1] 22))
    (fun b x => by subst x; exact (Below.heap_alloc _ _ _ (by simp; omega)).trans (Below.heap_alloc _ _ _ (by simp)))
  have h2 := (ints_new (W.alloc (.cells #[(Value.int .i64 (1)), (Value.int .i64 (4))] 3)) [2] 1).of (W' := ((W.alloc (.cells #[(Value.int .i64 (1)), (Value.int .i64 (4))] 3)).alloc (.cells #[(Value.int .i64 (2))] 3)).alloc (.cells #[.slice (some ⟨W.heap.size, 0, none⟩) 2 2, .slice (some ⟨W.heap.size + 1, 0, none⟩) 1 1] 22))
    (fun b x => by subst x; exact Below.heap_alloc _ _ _ (by simp))
  have h3 := vals_new ((W.alloc (.cells #[(Value.int .i64 (1)), (Value.int .i64 (4))] 3)).alloc (.cells #[(Value.int .i64 (2))] 3)) [.slice (some ⟨W.heap.size, 0, none⟩) 2 2, .slice (some ⟨W.heap.size + 1, 0, none⟩) 1 1] 22 2
  rw [World.size_alloc] at h2
  rw [World.size_alloc, World.size_alloc] at h3
  refine sq_merge (.func (.func 32) #[] #[]) 32 #[] id lss32 (.inl rfl) _ [(.slice (some ⟨W.heap.size, 0, none⟩) 2 2, [1, 4]), (.slice (some ⟨W.heap.size + 1, 0, none⟩) 1 1, [2])] (by show 2 ≤ _; omega) (by simp) _ _ h3 (fun b x => by subst x; simp) ?_ [1, 2, 4] mg_begun
  intro p hp
  simp only [List.mem_cons, List.not_mem_nil, or_false] at hp
  rcases hp with rfl | rfl
  · exact ⟨_, h1, fun b x => by subst x; simp; omega⟩
  · exact ⟨_, h2, fun b x => by subst x; simp⟩

theorem row_len {W : World} {base e size : Nat} {v : Value} {n : Nat} {xs : List Value} (h : W.ownsRow base e size v n xs) : ∃ p c, v = .slice p n c := by
  rcases h.2 with ⟨rfl, rfl⟩ | ⟨g, cap, cur, rfl, _⟩
  · exact ⟨_, _, rfl⟩
  · exact ⟨_, _, rfl⟩
/-- eq of equals. -/
theorem eq_yes {sa sb : Value} {xs : List Int} {Ba Bb : Nat → Prop} {W : World} (ha : Ints W sa xs Ba) (hb : Ints W sb xs Bb) (hl : xs.length ≤ 1000000) :
    Calls Try.prog 12 #[sa, sb] W fun e W' => e = .returned (.bool true) ∧ Below W.heap.size W W' := by
  refine (eq_any sa sb xs xs Ba Bb W ha hb hl).mono ?_
  rintro e W' ⟨rfl, n, rfl⟩
  exact ⟨by simp, ⟨rfl, rfl, rfl, Nat.le_refl _, fun _ _ => rfl⟩⟩

set_option maxRecDepth 100000 in
set_option maxHeartbeats 4000000 in
theorem begun_any (W : World) : Calls Try.prog 8 #[] W fun e W' => e = .returned (.bool true) ∧ Below W.heap.size W W' := by
  have hi0 := ints_new W [3, 1, 2] 3
  have hb0 := below_alloc W (.cells ([3, 1, 2].map (Value.int .i64)).toArray 3)
  have e1 : List.map (fun x => wrap64 (x * 2)) [3, 1, 2] = [6, 2, 4] := by kernel_rfl
  have e2 : List.foldl (fun a x => wrap64 (a + x)) 0 [3, 1, 2] = 6 := by kernel_rfl
  go_enter Try.func8, Try.ntmps8
  go_wp2_with (first
    | (go_at_call 10; refine (sq_of _ [3, 1, 2] _ (by decide) _ hi0).mono ?_; rintro e w1 ⟨g, lb, rfl, hs1, hb1⟩; have hb1 := below_on hb0 hb1; clear hb0 hi0)
    | (go_at_call 14; refine (sq_map _ [3, 1, 2] _ hs1 31 #[] _ (fun _ => False) (fun _ => True) (fun _ _ _ _ _ _ => trivial) (fun _ x => x.elim) trivial (fun x w _ => c31 x w)).mono ?_; rintro e w2 ⟨g2, lb2, rfl, hs2, hb2⟩; rw [e1] at hs2; have hs1 := hs1.later hb2; have hb2 := below_on hb1 hb2; clear hb1)
    | (go_at_call 13; refine (sq_list _ [6, 2, 4] (by decide) _ hs2).mono ?_; rintro e w3 ⟨v3, rfl, hr3, hb3⟩; obtain ⟨p3, k3, c3, rfl⟩ := row_slice hr3; have hs1 := hs1.later hb3; have hb3 := below_on hb2 hb3; clear hb2 hs2; have hi3 := hr3.ints; have hl3 := hr3.lt'; clear hr3)
    | (go_at_call 23; refine (begun_merge w3).mono ?_; rintro e w4 ⟨g4, lb4, rfl, hs4, hb4⟩; have hbm := below_on (below_on (below_on (below_alloc w3 _) (below_alloc _ _)) (below_alloc _ _)) hb4; have hs1 := hs1.later hbm; have hi3 := hi3.on hl3 hbm; have hb4 := below_on hb3 hbm; clear hb3 hbm hl3)
    | (go_at_call 13; refine (sq_list _ [1, 2, 4] (by decide) _ hs4).mono ?_; rintro e w5 ⟨v5, rfl, hr5, hb5⟩; obtain ⟨p5, k5, c5, rfl⟩ := row_slice hr5; have hs1 := hs1.later hb5; have hi3 := hi3.1.on hi3.2 hb5; have hb5 := below_on hb4 hb5; clear hb4 hs4; have hi5 := hr5.ints; have hl5 := hr5.lt'; clear hr5)
    | (go_at_call 12; refine (eq_yes (hi3.1.later hi3.2 (below_alloc w5 _)) (ints_new w5 [6, 2, 4] 3) (by decide)).mono ?_; rintro e w6 ⟨rfl, hb6⟩; have hbm := below_on (below_alloc w5 _) hb6; have hs1 := hs1.later hbm; have hi5 := hi5.on hl5 hbm; have hb6 := below_on hb5 hbm; clear hb5 hbm hi3 hl5)
    | (go_at_call 18; refine (sq_take _ [3, 1, 2] w6 hs1 2 (by decide)).mono ?_; rintro e w7 ⟨g7, lb7, rfl, hs7, hb7⟩; have hs1 := hs1.later hb7; have hi5 := hi5.1.on hi5.2 hb7; have hb7 := below_on hb6 hb7; clear hb6)
    | (go_at_call 13; refine (sq_list _ [3, 1] (by decide) _ hs7).mono ?_; rintro e w8 ⟨v8, rfl, hr8, hb8⟩; obtain ⟨p8, k8, c8, rfl⟩ := row_slice hr8; have hs1 := hs1.later hb8; have hi5 := hi5.1.on hi5.2 hb8; have hb8 := below_on hb7 hb8; clear hb7 hs7)
    | (go_at_call 12; refine (eq_yes (hr8.ints.later hr8.lt' (below_alloc w8 _)) (ints_new w8 [3, 1] 2) (by decide)).mono ?_; rintro e w9 ⟨rfl, hb9⟩; have hbm := below_on (below_alloc w8 _) hb9; have hs1 := hs1.later hbm; have hi5 := hi5.1.on hi5.2 hbm; have hb9 := below_on hb8 hbm; clear hb8 hbm hr8)
    | (go_at_call 19; refine (sq_skip _ [3, 1, 2] w9 hs1 2 (by decide) (by decide)).mono ?_; rintro e wa ⟨ga, lba, rfl, hsa, hba⟩; have hs1 := hs1.later hba; have hi5 := hi5.1.on hi5.2 hba; have hba := below_on hb9 hba; clear hb9)
    | (go_at_call 13; refine (sq_list _ [2] (by decide) _ hsa).mono ?_; rintro e wb ⟨vb, rfl, hrb, hbb⟩; obtain ⟨pb, kb, cb, rfl⟩ := row_slice hrb; have hs1 := hs1.later hbb; have hi5 := hi5.1.on hi5.2 hbb; have hbb := below_on hba hbb; clear hba hsa)
    | (go_at_call 12; refine (eq_yes (hrb.ints.later hrb.lt' (below_alloc wb _)) (ints_new wb [2] 1) (by decide)).mono ?_; rintro e wc ⟨rfl, hbc⟩; have hbm := below_on (below_alloc wb _) hbc; have hs1 := hs1.later hbm; have hi5 := hi5.1.on hi5.2 hbm; have hbc := below_on hbb hbm; clear hbb hbm hrb)
    | (go_at_call 12; refine (eq_yes (hi5.1.later hi5.2 (below_alloc wc _)) (ints_new wc [1, 2, 4] 3) (by decide)).mono ?_; rintro e wd ⟨rfl, hbd⟩; have hbm := below_on (below_alloc wc _) hbd; have hs1 := hs1.later hbm; have hbd := below_on hbc hbm; clear hbc hbm hi5)
    | (go_at_call 20; refine (sq_fold _ [3, 1, 2] wd hs1 0 33 #[] _ c33).mono ?_; rintro e we ⟨rfl, hbe⟩; have hbe := below_on hbd hbe; clear hbd; rw [e2])
    | (go_at_call 13; refine (sq_list _ [] (by decide) _ (sq_nil we)).mono ?_; rintro e wf ⟨vf, rfl, hrf, hbf⟩; obtain ⟨pf, cf, rfl⟩ := row_len hrf; have hbf := below_on hbe hbf; clear hbe hrf))
  go_ret
  exact ⟨rfl, hbf⟩

set_option maxRecDepth 100000 in
set_option maxHeartbeats 4000000 in
theorem none_any (W : World) : Calls Try.prog 7 #[] W fun e W' => e = .returned (.bool true) ∧ Below W.heap.size W W' := by
  go_enter Try.func7, Try.ntmps7
  go_wp2_with (first
    | (go_at_call 8; refine (begun_any W).mono ?_; rintro e w1 ⟨rfl, hb1⟩)
    | (go_at_call 14; refine (sq_map _ [] _ (sq_nil w1) 28 #[] (fun x => x) (fun _ => False) (fun _ => True) (fun _ _ _ _ _ _ => trivial) (fun _ x => x.elim) trivial (fun x w _ => c28 x w)).mono ?_; rintro e w2 ⟨g2, lb2, rfl, hs2, hb2⟩; have hb2 := below_on hb1 hb2; clear hb1)
    | (go_at_call 13; refine (sq_list _ [] (by decide) _ hs2).mono ?_; rintro e w3 ⟨v3, rfl, hr3, hb3⟩; obtain ⟨p3, c3, rfl⟩ := row_len hr3; have hb3 := below_on hb2 hb3; clear hb2 hs2 hr3)
    | (go_at_call 16; refine (sq_keep _ [] _ (sq_nil w3) 29 #[] (fun _ => true) c29).mono ?_; rintro e w4 ⟨g4, lb4, rfl, hs4, hb4⟩; have hb4 := below_on hb3 hb4; clear hb3)
    | (go_at_call 13; refine (sq_list _ [] (by decide) _ hs4).mono ?_; rintro e w5 ⟨v5, rfl, hr5, hb5⟩; obtain ⟨p5, c5, rfl⟩ := row_len hr5; have hb5 := below_on hb4 hb5; clear hb4 hs4 hr5)
    | (go_at_call 18; refine (sq_take _ [] _ (sq_nil w5) 3 (by decide)).mono ?_; rintro e w6 ⟨g6, lb6, rfl, hs6, hb6⟩; have hb6 := below_on hb5 hb6; clear hb5)
    | (go_at_call 13; refine (sq_list _ [] (by decide) _ hs6).mono ?_; rintro e w7 ⟨v7, rfl, hr7, hb7⟩; obtain ⟨p7, c7, rfl⟩ := row_len hr7; have hb7 := below_on hb6 hb7; clear hb6 hs6 hr7)
    | (go_at_call 19; refine (sq_skip _ [] _ (sq_nil w7) 0 (by decide) (by decide)).mono ?_; rintro e w8 ⟨g8, lb8, rfl, hs8, hb8⟩; have hb8 := below_on hb7 hb8; clear hb7)
    | (go_at_call 13; refine (sq_list _ [] (by decide) _ hs8).mono ?_; rintro e w9 ⟨v9, rfl, hr9, hb9⟩; obtain ⟨p9, c9, rfl⟩ := row_len hr9; have hb9 := below_on hb8 hb9; clear hb8 hs8 hr9)
    | (go_at_call 11; refine (sq_chain (.slice none 0 0) [] (fun _ => False) (by decide) w9 (.inl ⟨rfl, rfl⟩) (fun p x => by cases x)).mono ?_; rintro e wa ⟨ga, lba, rfl, hsa, hba⟩; have hba := below_on hb9 hba; clear hb9)
    | (go_at_call 13; refine (sq_list _ [] (by decide) _ hsa).mono ?_; rintro e wb ⟨vb, rfl, hrb, hbb⟩; obtain ⟨pb, cb, rfl⟩ := row_len hrb; have hbb := below_on hba hbb; clear hba hsa hrb)
    | (go_at_call 23; refine (sq_merge .nilFunc 44 #[] (fun _ => 0) c44 (.inr ⟨rfl, rfl, rfl⟩) (.slice none 0 0) [] (by decide) (fun p x => by cases x) (fun _ => False) wb (.inl ⟨rfl, rfl⟩) (fun _ x => x.elim) (fun p x => by cases x) [] rfl).mono ?_; rintro e wc ⟨gc, lbc, rfl, hsc, hbc⟩; have hbc := below_on hbb hbc; clear hbb)
    | (go_at_call 13; refine (sq_list _ [] (by decide) _ hsc).mono ?_; rintro e wd ⟨vd, rfl, hrd, hbd⟩; obtain ⟨pd, cd, rfl⟩ := row_len hrd; have hbd := below_on hbc hbd; clear hbc hsc hrd)
    | (go_at_call 20; refine (sq_fold _ [] wd (sq_nil wd) 5 30 #[] (fun _ _ => 0) c30).mono ?_; rintro e we ⟨rfl, hbe⟩; have hbe := below_on hbd hbe; clear hbd; rw [List.foldl_nil])
    | (go_at_call 10; refine (sq_of (.slice none 0 0) [] (fun _ => False) (by decide) we (.inl ⟨rfl, rfl⟩)).mono ?_; rintro e wf ⟨gf, lbf, rfl, hsf, hbf⟩; have hbf := below_on hbe hbf; clear hbe)
    | (go_at_call 13; refine (sq_list _ [] (by decide) _ hsf).mono ?_; rintro e wg ⟨vg, rfl, hrg, hbg⟩; obtain ⟨pg, cg, rfl⟩ := row_len hrg; have hbg := below_on hbf hbg; clear hbf hsf hrg))
  go_ret
  exact ⟨rfl, hbg⟩
end Go.Proofs.Ytjlnfeableleeaa
