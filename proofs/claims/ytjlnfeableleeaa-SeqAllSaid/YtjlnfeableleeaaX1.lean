import Derived.Test.YtjlnfeableleeaaX0
namespace Go.Proofs.Ytjlnfeableleeaa
open Go Go.RowKit Go.Shelf Go.Proofs
attribute [local go_sem] eql26n eql26f eql32f eql34f eql37f eql42n eql42f wide_fn wide_depth

set_option maxRecDepth 100000 in
set_option maxHeartbeats 1000000 in
theorem all_nil (va0 vb0 : Value) (zs : List Int) (n k : Int) (W : World) (pb : Option Addr) (cb : Nat) (B : Nat → Prop) (hcuta : ∀ w, Calls Try.prog 9 #[va0, (Value.int .i64 (30))] w fun e w' => e = .returned (.slice none 0 0) ∧ w' = w)
    (hcutb : ∀ w, Calls Try.prog 9 #[vb0, (Value.int .i64 (30))] w fun e w' => e = .returned (.slice pb zs.length cb) ∧ w' = w) (hlz : zs.length ≤ 30) (hib : Ints W (.slice pb zs.length cb) zs B) (hBb : ∀ b, B b → b < W.heap.size)
    (hn0 : -9223372036854775808 ≤ n) (hn1 : n ≤ 9223372036854775807) :
    Calls Try.prog 3 #[va0, vb0, (Value.int .i64 (n)), (Value.int .i64 (k))] W fun e W' => e = .returned (.bool true) ∧ Below W.heap.size W W' := by
  have hia : Ints W (.slice none 0 0) [] (fun _ => False) := .inl ⟨rfl, rfl⟩
  have hbk := below_alloc W (.cells #[(Value.int .i64 (k))] 3)
  have hkc := Cell.new W (Value.int .i64 (k)) 3
  go_enter Try.func3, Try.ntmps3
  go_wp2_with (first
    | (go_at_call 8; refine (begun_any _).mono ?_; rintro e w1 ⟨rfl, hb1⟩; have hk1 := hkc.of (hb1.block _ hkc.lt); have hc1 := below_on hbk hb1; clear hbk hkc hb1)
    | (go_at_call 9; (with_reducible refine (hcuta _).mono ?_); rintro e w1 ⟨rfl, rfl⟩)
    | (go_at_call 9; (with_reducible refine (hcutb _).mono ?_); rintro e w1 ⟨rfl, rfl⟩)
    | (go_at_call 10; have hof := sq_of _ [] _ (by simp) _ (hia.later (fun _ x => x.elim) hc1); (with_reducible refine hof.mono ?_); clear hof; rintro e w2 ⟨g2, lb2, rfl, hs2, hb2⟩; have hk2 := hk1.of (hb2.block _ hk1.lt); have hc2 := below_on hc1 hb2; clear hk1)
    | (go_at_call 10; have hof := sq_of _ zs _ (by omega) _ (hib.later hBb hc2); (with_reducible refine hof.mono ?_); clear hof; rintro e w3 ⟨g3, lb3, rfl, hs3, hb3⟩; have ht2 := hs2.later hb3; have hkc := hk2.of (hb3.block _ hk2.lt); have hc3 := below_on hc2 hb3; clear hk2 hb3 hs2)
    )
  have hib3 := hib.on hBb hc3
  have HA := Lib.hid (And.intro hkc (And.intro ht2 (And.intro hs3 hc3)))
  have HIB2 := Lib.hid hib3
  clear hcuta hcutb hia hib hib3 ht2 hs3 hc1 hc2 hc3 hkc
  go_loopw [12, 13, 14, 15] (fun v12 v13 a14 i wr => wr = w3 ∧ v12 = .slice none 0 0 ∧ v13 = .slice none 0 0 ∧ a14 = (Value.int .i64 (7)) ∧ i = (Value.int .i64 (0))) (fun _ _ _ _ _ => 0)
  case atStart => exact ⟨rfl, rfl, rfl, rfl, rfl⟩
  case round =>
    obtain ⟨rfl, rfl, rfl, rfl, rfl⟩ := hrel
    have hia : Ints wr (.slice none 0 0) [] (fun _ => False) := .inl ⟨rfl, rfl⟩
    go_wp2_with (first
      | (at_builtin; refine wpList_append_ints rfl (.const (.slice none 0 0)) (.tmp 72) rfl wr.heap.size (.slice none 0 0) [] (.slice none 0 0) [] _ rfl (by simp [Act.eval]) (row_none _ _) hia (by simp) (Nat.le_refl _) ?_; intro v5 w5 hr5 hg5 hat5; have hb5 := (Below.refl wr.heap.size wr).grown hg5 (Nat.le_refl _) (fun q hq => by simp [Value.ownBlock] at hq); have HR5 := Lib.hid hr5; clear hr5 hg5 hat5)
      | (at_builtin; refine wpList_append_ints rfl (.tmp 73) (.tmp 74) rfl wr.heap.size v5 _ (.slice pb zs.length cb) zs _ (by simp [Act.eval]) (by simp [Act.eval]) HR5.out (HIB2.out.1.later HIB2.out.2 hb5) (by simp; omega) hb5.size ?_; intro v6 w6 hr6 hg6 hat6; have hb6 := hb5.grown hg6 hb5.size (fun q hq => (HR5.out.lt q hq).1); have HR6 := Lib.hid hr6; clear hr6 hg6 hat6 hb5)
      | (go_at_call 11; refine (all_chain w6 g2 lb2 g3 lb3 [] zs ((HA.out.2.1).later hb6) ((HA.out.2.2.1).later hb6)).mono ?_; rintro e w8 ⟨g8, lb8, rfl, hs8, hb8⟩; have HF := Lib.hid (all_f (u12 := .slice none 0 0) (u13 := .slice none 0 0) ⟨HA.out.1, HA.out.2.1, HA.out.2.2.1, ⟨(row_none _ 0).ints, (row_none _ 0).lt'⟩, ⟨(row_none _ 0).ints, (row_none _ 0).lt'⟩, HA.out.2.2.2⟩ ⟨hia, fun _ x => x.elim⟩ HR6.out hb6 hs8 hb8); clear hs8 hb8 hb6 HA HIB2 HR5 HR6))
    have hm : max 0 (min n (0 : Int)) = 0 := by omega
    rw [hm]
    go_loopw [19] (fun i w => ∃ t : Nat, t ≤ 2 ∧ i = .int .i64 (t : Int) ∧ AllF W.heap.size k [] zs (.slice none 0 0) (.slice none 0 0) (.slice none 0 0) v6 (.func (.func g2) #[] lb2) (.func (.func g8) #[] lb8) w ∧ Below W.heap.size W w) (fun i _ => 2 - (intOf i).toNat)
    case atStart => exact ⟨0, Nat.zero_le _, rfl, HF.out.1, HF.out.2⟩
    case round =>
      obtain ⟨t, ht, rfl, F0, hW0⟩ := hrel
      clear HF
      by_cases h2t : t < 2
      · go_wp2_with (first
          | (go_at_call 13; have hl := sq_list _ [] (by simp) _ F0.sa; (with_reducible refine hl.mono ?_); clear hl; rintro e x1 ⟨v1, rfl, hr1, hb1⟩; obtain ⟨p1, k1, c1, rfl⟩ := row_slice hr1; have F1 := F0.later hb1; have hW1 := below_on hW0 hb1; have hi1 := hr1.ints; clear F0 hW0 hr1 hb1)
          | (go_at_call 12; obtain ⟨Ba, hia, hla⟩ := F1.ia; have hl := eq_yes hi1 hia (by simp); (with_reducible refine hl.mono ?_); clear hl; rintro e x2 ⟨rfl, hb2⟩; have F2 := F1.later hb2; have hW2 := below_on hW1 hb2; clear F1 hW1 hb2 hia hla hi1 Ba)
          | (go_at_call 14; have hl := sq_map _ [] x2 F2.sa 15 #[(Value.pointer (some ⟨W.heap.size, 0, none⟩))] _ (fun q => q = W.heap.size) (fun w => Cell w W.heap.size (Value.int .i64 (k))) (fun _ _ h _ _ hb => h.of (hb _ rfl)) (fun q x => x ▸ F2.kc.lt) F2.kc (fun x w h => c15 W.heap.size k x w h); (with_reducible refine hl.mono ?_); clear hl; rintro e x3 ⟨gm, lm, rfl, hm3, hb3⟩; have F3 := F2.later hb3; have hW3 := below_on hW2 hb3; clear F2 hW2 hb3)
          | (go_at_call 13; have hl := sq_list _ _ (by simp) _ hm3; (with_reducible refine hl.mono ?_); clear hl; rintro e x4 ⟨v4, rfl, hr4, hb4⟩; obtain ⟨p4, k4, c4, rfl⟩ := row_slice hr4; have F4 := F3.later hb4; have hW4 := below_on hW3 hb4; have hi4 := hr4.ints; clear F3 hW3 hr4 hb4 hm3)
          | (go_at_call 12; obtain ⟨Ba, hia, hla⟩ := F4.i12; have hl := eq_yes hi4 hia (by simp); (with_reducible refine hl.mono ?_); clear hl; rintro e x5 ⟨rfl, hb5⟩; have F5 := F4.later hb5; have hW5 := below_on hW4 hb5; clear F4 hW4 hb5 hia hla hi4 Ba)
          | (go_at_call 16; have hl := sq_keep _ [] x5 F5.sa 17 #[] _ c17; (with_reducible refine hl.mono ?_); clear hl; rintro e x6 ⟨gk, lk, rfl, hk6, hb6⟩; have F6 := F5.later hb6; have hW6 := below_on hW5 hb6; clear F5 hW5 hb6)
          | (go_at_call 13; have hl := sq_list _ _ (by simp) _ hk6; (with_reducible refine hl.mono ?_); clear hl; rintro e x7 ⟨v7, rfl, hr7, hb7⟩; obtain ⟨p7, k7, c7, rfl⟩ := row_slice hr7; have F7 := F6.later hb7; have hW7 := below_on hW6 hb7; have hi7 := hr7.ints; clear F6 hW6 hr7 hb7 hk6)
          | (go_at_call 12; obtain ⟨Ba, hia, hla⟩ := F7.i13; have hl := eq_yes hi7 hia (by simp); (with_reducible refine hl.mono ?_); clear hl; rintro e x8 ⟨rfl, hb8⟩; have F8 := (F7.later hb8).later ((Below.refl _ _).drew); have hW8 := below_on hW7 hb8; clear F7 hW7 hb8 hia hla hi7 Ba))
        have hlt1 : (([] : List Int).take n.toNat).length ≤ 1000000 := by simp
        have hlt2 : (([] : List Int).drop n.toNat).length ≤ 1000000 := by simp
        have hlt3 : (([] : List Int) ++ zs).length ≤ 1000000 := by simp; omega
        have hnt : ∀ w, Ints w (.slice none 0 0) (([] : List Int).take n.toNat) (fun _ => False) := fun w => .inl ⟨rfl, by simp⟩
        have hnd : ∀ w, Ints w (.slice none 0 0) (([] : List Int).drop n.toNat) (fun _ => False) := fun w => .inl ⟨rfl, by simp⟩
        go_region_held3 (fun _ => True) (trivial) (first
          | (go_at_call 18; have hX := sq_take _ [] _ F8.sa n hn1; (with_reducible refine hX.mono ?_); clear hX; rintro e y1 ⟨ga, la, rfl, ha1, hb1⟩; have G1 := F8.later hb1; have hV1 := below_on hW8.drew hb1; clear F8 hW8 hb1)
          | (go_at_call 13; have hX := sq_list _ _ hlt1 _ ha1; (with_reducible refine hX.mono ?_); clear hX; rintro e y2 ⟨va1, rfl, hr1, hb2⟩; obtain ⟨q1, m1, d1, rfl⟩ := row_slice hr1; have G2 := G1.later hb2; have hV2 := below_on hV1 hb2; have hi2 := hr1.ints; clear G1 hV1 hb2 hr1 ha1)
          | (go_at_call 12; have hX := eq_yes hi2 (hnt _) hlt1; (with_reducible refine hX.mono ?_); clear hX; rintro e y3 ⟨rfl, hb3⟩; have G3 := G2.later hb3; have hV3 := below_on hV2 hb3; clear G2 hV2 hb3 hi2)
          | (go_at_call 19; have hX := sq_skip _ [] _ G3.sa n hn0 hn1; (with_reducible refine hX.mono ?_); clear hX; rintro e y4 ⟨gs, ls, rfl, hs4, hb4⟩; have G4 := G3.later hb4; have hV4 := below_on hV3 hb4; clear G3 hV3 hb4)
          | (go_at_call 13; have hX := sq_list _ _ hlt2 _ hs4; (with_reducible refine hX.mono ?_); clear hX; rintro e y5 ⟨va5, rfl, hr5, hb5⟩; obtain ⟨q5, m5, d5, rfl⟩ := row_slice hr5; have G5 := G4.later hb5; have hV5 := below_on hV4 hb5; have hi5 := hr5.ints; clear G4 hV4 hb5 hr5 hs4)
          | (go_at_call 12; have hX := eq_yes hi5 (hnd _) hlt2; (with_reducible refine hX.mono ?_); clear hX; rintro e y6 ⟨rfl, hb6⟩; have G6 := G5.later hb6; have hV6 := below_on hV5 hb6; clear G5 hV5 hb6 hi5)
          | (go_at_call 13; have hX := sq_list _ _ hlt3 _ G6.al; (with_reducible refine hX.mono ?_); clear hX; rintro e y7 ⟨va7, rfl, hr7, hb7⟩; obtain ⟨q7, m7, d7, rfl⟩ := row_slice hr7; have G7 := G6.later hb7; have hV7 := below_on hV6 hb7; have hi7 := hr7.ints; clear G6 hV6 hb7 hr7)
          | (go_at_call 12; obtain ⟨Ba, hia, hla⟩ := G7.i17; have hX := eq_yes hi7 hia hlt3; (with_reducible refine hX.mono ?_); clear hX; rintro e y8 ⟨rfl, hb8⟩; have G8 := G7.later hb8; have hV8 := below_on hV7 hb8; clear G7 hV7 hb8 hia hla hi7 Ba)
          | (go_at_call 20; have hX := sq_fold _ [] _ G8.sa 7 21 #[] _ c21; (with_reducible refine hX.mono ?_); clear hX; rintro e y9 ⟨rfl, hb9⟩; have G9 := Lib.hid (G8.later hb9); have hV9 := below_on hV8 hb9; clear G8 hV8 hb9))
        go_wp2_with fail
        exact ⟨⟨t + 1, by omega, by simp, G9.out, hV9⟩, by simp [intOf]; omega⟩
      · go_wp2_with fail
        go_ret
        exact ⟨rfl, hW0⟩
end Go.Proofs.Ytjlnfeableleeaa
