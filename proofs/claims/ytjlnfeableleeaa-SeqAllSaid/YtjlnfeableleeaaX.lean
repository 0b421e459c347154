import Derived.Test.YtjlnfeableleeaaX1
namespace Go.Proofs.Ytjlnfeableleeaa
open Go Go.RowKit Go.Shelf Go.Proofs
attribute [local go_sem] eql26n eql26f eql32f eql34f eql37f eql42n eql42f wide_fn wide_depth

set_option maxRecDepth 100000 in
set_option maxHeartbeats 1000000 in
theorem all_walk (va0 vb0 : Value) (xs0 xs1 : List Int) (n k : Int) (W : World) (hA : Par W va0 xs0) (hB : Par W vb0 xs1) (hn0 : -9223372036854775808 ≤ n) (hn1 : n ≤ 9223372036854775807) (_hk0 : -9223372036854775808 ≤ k) (_hk1 : k ≤ 9223372036854775807) :
    Calls Try.prog 3 #[va0, vb0, (Value.int .i64 (n)), (Value.int .i64 (k))] W fun e W' => e = .returned (.bool true) ∧ Below W.heap.size W W' := by
  obtain ⟨va, hpa, hcuta⟩ := cut_par va0 xs0 W hA
  obtain ⟨vb, hpb, hcutb⟩ := cut_par vb0 xs1 W hB
  have hly : (xs0.take 30).length ≤ 30 := by rw [List.length_take]; omega
  have hlz : (xs1.take 30).length ≤ 30 := by rw [List.length_take]; omega
  generalize xs0.take 30 = ys at hpa hly
  generalize xs1.take 30 = zs at hpb hlz
  have hia := hpa.ints
  have hib := hpb.ints
  have hfb : ∃ pb cb, vb = .slice pb zs.length cb := by
    rcases hpb with ⟨rfl, rfl⟩ | ⟨b, off, cap, rfl, _⟩
    · exact ⟨_, _, rfl⟩
    · exact ⟨_, _, rfl⟩
  clear hpb
  obtain ⟨pb, cb, rfl⟩ := hfb
  rcases hpa with ⟨rfl, hy⟩ | ⟨b, off, cap, rfl, h1, h2, h3, h4⟩
  · subst hy
    exact all_nil va0 vb0 zs n k W pb cb _ hcuta hcutb hlz hib (fun _ x => x) hn0 hn1
  · unfold maxLen at h3
    have hbk := below_alloc W (.cells #[(Value.int .i64 (k))] 3)
    have hkc := Cell.new W (Value.int .i64 (k)) 3
    go_enter Try.func3, Try.ntmps3
    go_wp2_with (first
      | (go_at_call 8; refine (begun_any _).mono ?_; rintro e w1 ⟨rfl, hb1⟩; have hk1 := hkc.of (hb1.block _ hkc.lt); have hc1 := below_on hbk hb1; clear hbk hkc hb1)
      | (go_at_call 9; (with_reducible refine (hcuta _).mono ?_); rintro e w1 ⟨rfl, rfl⟩)
      | (go_at_call 9; (with_reducible refine (hcutb _).mono ?_); rintro e w1 ⟨rfl, rfl⟩)
      | (go_at_call 10; have hof := sq_of _ ys _ (by omega) _ (hia.later (fun _ x => x) hc1); (with_reducible refine hof.mono ?_); clear hof; rintro e w2 ⟨g2, lb2, rfl, hs2, hb2⟩; have hk2 := hk1.of (hb2.block _ hk1.lt); have hc2 := below_on hc1 hb2; clear hk1)
      | (go_at_call 10; have hof := sq_of _ zs _ (by omega) _ (hib.later (fun _ x => x) hc2); (with_reducible refine hof.mono ?_); clear hof; rintro e w3 ⟨g3, lb3, rfl, hs3, hb3⟩; have ht2 := hs2.later hb3; have hkc := hk2.of (hb3.block _ hk2.lt); have hc3 := below_on hc2 hb3; clear hk2 hb3 hs2)
      )
    obtain ⟨D, hD⟩ : ∃ D, w3.heap.size = D := ⟨_, rfl⟩
    have hKD : W.heap.size < D := by have := hkc.lt; omega
    obtain ⟨nl, hnl⟩ : ∃ nl, ys.length = nl := ⟨_, rfl⟩
    have HNL := Lib.hid hnl
    have hcell : ∀ j (hj : j < ys.length), w3.cell? ⟨b, off + j, none⟩ = some (Value.int .i64 (ys[j])) := fun j hj => by rw [World.cell?_of_block (w := W) (a := ⟨b, off + j, none⟩) (hc3.block b h1), h4 j hj]; simp [hj]
    have HKC := Lib.hid hkc
    have HS2 := Lib.hid ht2
    have HS3 := Lib.hid hs3
    have HB3 := Lib.hid hc3
    have HIA := Lib.hid (hia.later (fun _ x => x) hc3)
    have HIB := Lib.hid (hib.later (fun _ x => x) hc3)
    have hbD : b < D := by omega
    rw [hnl] at h2 hly ⊢
    clear hcuta hcutb h4 hA hB hia hib ht2 hs3 hc1 hc2 hkc hnl
    go_loopw [12, 13, 14, 15] (fun v12 v13 a14 i wr => ∃ j : Nat, j ≤ nl ∧ i = .int .i64 (j : Int) ∧ a14 = .int .i64 ((ys.take j).foldl (fun a x => wrap64 (wrap64 (a * 3) + x)) 7) ∧ St D w3 wr v12 v13 ((ys.take j).map (fun x => wrap64 (wrap64 (x * 2) + k))) ((ys.take j).filter (fun x => x.tmod 2 != 0))) (fun _ _ _ i _ => nl - (intOf i).toNat)
    case atStart =>
      exact ⟨0, Nat.zero_le _, rfl, rfl, ⟨.refl _ _, by omega, row_none _ _, row_none _ _, fun q hq => by simp [Value.ownBlock] at hq⟩⟩
    case round =>
      obtain ⟨j, hj, rfl, rfl, hst⟩ := hrel
      by_cases hlt : j < nl
      · have hjl : j < ys.length := by rw [HNL.out]; exact hlt
        have hc := hcell j hjl
        have htk : ys.take (j + 1) = ys.take j ++ [ys[j]] := List.take_succ_eq_append_getElem hjl
        obtain ⟨x, hx⟩ : ∃ x, ys[j] = x := ⟨_, rfl⟩
        rw [hx] at hc htk
        have hcr : wr.cell? ⟨b, off + j, none⟩ = some (Value.int .i64 (x)) := (hst.below.cell (p := ⟨b, off + j, none⟩) hbD).trans hc
        have hkr : wr.cell? ⟨W.heap.size, 0, none⟩ = some (Value.int .i64 (k)) := (hst.below.cell (p := ⟨W.heap.size, 0, none⟩) hKD).trans HKC.out.1
        have E12 : Hid ((ys.take (j + 1)).map (fun x => wrap64 (wrap64 (x * 2) + k)) = (ys.take j).map (fun x => wrap64 (wrap64 (x * 2) + k)) ++ [IntKind.i64.wrap (IntKind.i64.wrap (x * 2) + k)]) := Lib.hid (by rw [htk, List.map_append, Go.IntWalk.i64_left, Go.IntWalk.i64_left]; rfl)
        have E14 : Hid ((ys.take (j + 1)).foldl (fun a x => wrap64 (wrap64 (a * 3) + x)) 7 = wrap64 (wrap64 ((ys.take j).foldl (fun a x => wrap64 (wrap64 (a * 3) + x)) 7 * 3) + x)) := Lib.hid (by rw [htk, List.foldl_append]; rfl)
        have E13 : Hid ((ys.take (j + 1)).filter (fun x => x.tmod 2 != 0) = (ys.take j).filter (fun x => x.tmod 2 != 0) ++ (if x.tmod 2 = 0 then [] else [x])) := Lib.hid (by
          rw [htk, List.filter_append]
          by_cases h : x.tmod 2 = 0
          · simp [h]
          · simp [h])
        have HST := Lib.hid hst
        have HC := Lib.hid hc
        have hlm : ((ys.take j).map (fun x => wrap64 (wrap64 (x * 2) + k))).length ≤ 30 := by rw [List.length_map, List.length_take]; omega
        have hlf : ((ys.take j).filter (fun x => x.tmod 2 != 0)).length ≤ 30 := Nat.le_trans (List.length_filter_le _ _) (by rw [List.length_take]; omega)
        clear htk hst hc hcell
        by_cases hodd : x.tmod 2 = 0
        · go_wp2_with fail
          go_region_law (refine step_append_ints rfl (.tmp 37) (.tmp 45) rfl D u12 _ (.slice (some ⟨wr.heap.size, 0, none⟩) 1 1) [IntKind.i64.wrap (IntKind.i64.wrap (x * 2) + k)] _ (by simp [Act.eval]) (by simp [Act.eval]) (HST.out.drew.r12.alloc _) (ints_new wr.drew [IntKind.i64.wrap (IntKind.i64.wrap (x * 2) + k)] 1) (by simp; omega) (by have := HST.out.sz; simp; omega) ?_; intro v4 w4 hr4 hg4 hat4; have HS4 := Lib.hid (HST.out.drew.app12 hr4 hg4 hat4); have hc4 : w4.cell? ⟨b, off + j, none⟩ = some (Value.int .i64 (x)) := (HS4.out.below.cell (p := ⟨b, off + j, none⟩) hbD).trans HC.out; clear hr4 hg4 hat4)
          all_goals go_wp2_with fail
          all_goals refine ⟨⟨j + 1, by omega, by simp, by rw [E14.out], ?_⟩, by simp [intOf]; omega⟩
          all_goals (rw [E12.out, E13.out, if_pos hodd, List.append_nil]; exact HS4.out)
        · go_wp2_with fail
          go_region_law (refine step_append_ints rfl (.tmp 37) (.tmp 45) rfl D u12 _ (.slice (some ⟨wr.heap.size, 0, none⟩) 1 1) [IntKind.i64.wrap (IntKind.i64.wrap (x * 2) + k)] _ (by simp [Act.eval]) (by simp [Act.eval]) (HST.out.drew.r12.alloc _) (ints_new wr.drew [IntKind.i64.wrap (IntKind.i64.wrap (x * 2) + k)] 1) (by simp; omega) (by have := HST.out.sz; simp; omega) ?_; intro v4 w4 hr4 hg4 hat4; have HS4 := Lib.hid (HST.out.drew.app12 hr4 hg4 hat4); have hc4 : w4.cell? ⟨b, off + j, none⟩ = some (Value.int .i64 (x)) := (HS4.out.below.cell (p := ⟨b, off + j, none⟩) hbD).trans HC.out; clear hr4 hg4 hat4)
          all_goals go_wp2_with (at_builtin; refine wpList_append_ints rfl (.tmp 53) (.tmp 58) rfl D u13 _ (.slice (some ⟨w4.heap.size, 0, none⟩) 1 1) [x] _ (by simp [Act.eval]) (by simp [Act.eval]) (HS4.out.r13.alloc _) (ints_new w4 [x] 1) (by simp; omega) (by have := HS4.out.sz; simp; omega) ?_; intro v5 w5 hr5 hg5 hat5; have HS5 := Lib.hid (HS4.out.app13 hr5 hg5 hat5); have hc5 : w5.cell? ⟨b, off + j, none⟩ = some (Value.int .i64 (x)) := (HS5.out.below.cell (p := ⟨b, off + j, none⟩) hbD).trans HC.out; clear hr5 hg5 hat5)
          all_goals refine ⟨⟨j + 1, by omega, by simp, by rw [E14.out], ?_⟩, by simp [intOf]; omega⟩
          all_goals (rw [E12.out, E13.out, if_neg hodd]; exact HS5.out)
      · have hjn : j = nl := by omega
        have hty : ys.take j = ys := List.take_of_length_le (by rw [HNL.out]; omega)
        rw [hty] at hst ⊢
        have hb3r : Below w3.heap.size w3 wr := hst.below.mono (by omega)
        have F0 : AllF W.heap.size k ys zs (.slice (some ⟨b, off, none⟩) nl cap) u12 u13 (.slice none 0 0) (.func (.func g2) #[] lb2) .nilFunc wr → True := fun _ => trivial
        have hkw : Cell wr W.heap.size (Value.int .i64 (k)) := HKC.out.of (hst.below.block _ hKD)
        have hs2 := HS2.out.later hb3r
        have hs3 := HS3.out.later hb3r
        have hia := (HIA.out.on (fun q x => Nat.lt_of_lt_of_le x HB3.out.size) hb3r)
        have hib := (HIB.out.on (fun q x => Nat.lt_of_lt_of_le x HB3.out.size) hb3r)
        have hi12 := hst.r12.ints
        have hl12 := hst.r12.lt'
        have hi13 := hst.r13.ints
        have hl13 := hst.r13.lt'
        have hWr := below_on HB3.out hb3r
        rw [HNL.out] at hia
        have HA := Lib.hid (And.intro hkw (And.intro hs2 (And.intro hs3 (And.intro (And.intro hi12 hl12) (And.intro (And.intro hi13 hl13) hWr)))))
        have HIA2 := Lib.hid hia
        have HIB2 := Lib.hid hib
        clear F0 hkw hs2 hs3 hia hib hi12 hl12 hi13 hl13 hWr hst hcell
        go_wp2_with (first
          | (at_builtin; refine wpList_append_ints rfl (.const (.slice none 0 0)) (.tmp 72) rfl wr.heap.size (.slice none 0 0) [] (.slice (some ⟨b, off, none⟩) nl cap) ys _ rfl (by simp [Act.eval]) (row_none _ _) HIA2.out.1 (by simp; have := HNL.out; omega) (Nat.le_refl _) ?_; intro v5 w5 hr5 hg5 hat5; have hb5 := (Below.refl wr.heap.size wr).grown hg5 (Nat.le_refl _) (fun q hq => by simp [Value.ownBlock] at hq); have HR5 := Lib.hid hr5; clear hr5 hg5 hat5)
          | (at_builtin; refine wpList_append_ints rfl (.tmp 73) (.tmp 74) rfl wr.heap.size v5 _ (.slice pb zs.length cb) zs _ (by simp [Act.eval]) (by simp [Act.eval]) HR5.out (HIB2.out.1.later HIB2.out.2 hb5) (by simp; have := HNL.out; omega) hb5.size ?_; intro v6 w6 hr6 hg6 hat6; have hb6 := hb5.grown hg6 hb5.size (fun q hq => (HR5.out.lt q hq).1); have HR6 := Lib.hid hr6; clear hr6 hg6 hat6 hb5)
          | (go_at_call 11; refine (all_chain w6 g2 lb2 g3 lb3 ys zs ((HA.out.2.1).later hb6) ((HA.out.2.2.1).later hb6)).mono ?_; rintro e w8 ⟨g8, lb8, rfl, hs8, hb8⟩; have HF := Lib.hid (all_f HA.out HIA2.out HR6.out hb6 hs8 hb8); clear hs8 hb8 hb6 HA HIA2 HIB2 HR5 HR6))
        go_loopw [19] (fun i w => ∃ t : Nat, t ≤ 2 ∧ i = .int .i64 (t : Int) ∧ AllF W.heap.size k ys zs (.slice (some ⟨b, off, none⟩) nl cap) u12 u13 v6 (.func (.func g2) #[] lb2) (.func (.func g8) #[] lb8) w ∧ Below W.heap.size W w) (fun i _ => 2 - (intOf i).toNat)
        case atStart => exact ⟨0, Nat.zero_le _, rfl, HF.out.1, HF.out.2⟩
        case round =>
          obtain ⟨t, ht, rfl, F0, hW0⟩ := hrel
          clear HF
          by_cases h2t : t < 2
          · have hl12 : (ys.map (fun x => wrap64 (wrap64 (x * 2) + k))).length ≤ 1000000 := by rw [List.length_map, HNL.out]; omega
            have hl13 : (ys.filter (fun x => x.tmod 2 != 0)).length ≤ 1000000 := Nat.le_trans (List.length_filter_le _ _) (by rw [HNL.out]; omega)
            have hly' : ys.length ≤ 1000000 := by rw [HNL.out]; omega
            go_wp2_with (first
              | (go_at_call 13; have hl := sq_list _ ys hly' _ F0.sa; (with_reducible refine hl.mono ?_); clear hl; rintro e x1 ⟨v1, rfl, hr1, hb1⟩; obtain ⟨p1, k1, c1, rfl⟩ := row_slice hr1; have F1 := F0.later hb1; have hW1 := below_on hW0 hb1; have hi1 := hr1.ints; clear F0 hW0 hr1 hb1)
              | (go_at_call 12; obtain ⟨Ba, hia, hla⟩ := F1.ia; have hl := eq_yes hi1 hia hly'; (with_reducible refine hl.mono ?_); clear hl; rintro e x2 ⟨rfl, hb2⟩; have F2 := F1.later hb2; have hW2 := below_on hW1 hb2; clear F1 hW1 hb2 hia hla hi1 Ba)
              | (go_at_call 14; have hl := sq_map _ ys x2 F2.sa 15 #[(Value.pointer (some ⟨W.heap.size, 0, none⟩))] _ (fun q => q = W.heap.size) (fun w => Cell w W.heap.size (Value.int .i64 (k))) (fun _ _ h _ _ hb => h.of (hb _ rfl)) (fun q x => x ▸ F2.kc.lt) F2.kc (fun x w h => c15 W.heap.size k x w h); (with_reducible refine hl.mono ?_); clear hl; rintro e x3 ⟨gm, lm, rfl, hm3, hb3⟩; have F3 := F2.later hb3; have hW3 := below_on hW2 hb3; clear F2 hW2 hb3)
              | (go_at_call 13; have hl := sq_list _ _ hl12 _ hm3; (with_reducible refine hl.mono ?_); clear hl; rintro e x4 ⟨v4, rfl, hr4, hb4⟩; obtain ⟨p4, k4, c4, rfl⟩ := row_slice hr4; have F4 := F3.later hb4; have hW4 := below_on hW3 hb4; have hi4 := hr4.ints; clear F3 hW3 hr4 hb4 hm3)
              | (go_at_call 12; obtain ⟨Ba, hia, hla⟩ := F4.i12; have hl := eq_yes hi4 hia hl12; (with_reducible refine hl.mono ?_); clear hl; rintro e x5 ⟨rfl, hb5⟩; have F5 := F4.later hb5; have hW5 := below_on hW4 hb5; clear F4 hW4 hb5 hia hla hi4 Ba)
              | (go_at_call 16; have hl := sq_keep _ ys x5 F5.sa 17 #[] _ c17; (with_reducible refine hl.mono ?_); clear hl; rintro e x6 ⟨gk, lk, rfl, hk6, hb6⟩; have F6 := F5.later hb6; have hW6 := below_on hW5 hb6; clear F5 hW5 hb6)
              | (go_at_call 13; have hl := sq_list _ _ hl13 _ hk6; (with_reducible refine hl.mono ?_); clear hl; rintro e x7 ⟨v7, rfl, hr7, hb7⟩; obtain ⟨p7, k7, c7, rfl⟩ := row_slice hr7; have F7 := F6.later hb7; have hW7 := below_on hW6 hb7; have hi7 := hr7.ints; clear F6 hW6 hr7 hb7 hk6)
              | (go_at_call 12; obtain ⟨Ba, hia, hla⟩ := F7.i13; have hl := eq_yes hi7 hia hl13; (with_reducible refine hl.mono ?_); clear hl; rintro e x8 ⟨rfl, hb8⟩; have F8 := (F7.later hb8).later ((Below.refl _ _).drew); have hW8 := below_on hW7 hb8; clear F7 hW7 hb8 hia hla hi7 Ba))
            have hlt1 : (ys.take n.toNat).length ≤ 1000000 := by rw [List.length_take, HNL.out]; omega
            have hlt2 : (ys.drop n.toNat).length ≤ 1000000 := by rw [List.length_drop, HNL.out]; omega
            obtain ⟨m, hm⟩ : ∃ m : Nat, max 0 (min n (nl : Int)) = (m : Int) := ⟨(max 0 (min n (nl : Int))).toNat, by omega⟩
            have hmn : m ≤ nl := by omega
            have hmc : m ≤ cap := by omega
            have hmc' : (m : Int) ≤ (cap : Int) := by omega
            have hm0 : (0 : Int) ≤ (m : Int) := by omega
            rw [hm]
            have hlt3 : (ys ++ zs).length ≤ 1000000 := by rw [List.length_append, HNL.out]; omega
            have hmt : (ys.take n.toNat).length = m := by rw [List.length_take, HNL.out]; omega
            have hmt2 : n.toNat = m ∨ (nl = m ∧ ys.length ≤ n.toNat) := by have := HNL.out; omega
            by_cases hcm : cap = m
            · have hnm : nl ≤ m := by omega
              subst hcm
              go_region_held3 (fun _ => True) (trivial) (first
                | (go_at_call 18; have hX := sq_take _ ys _ F8.sa n hn1; (with_reducible refine hX.mono ?_); clear hX; rintro e y1 ⟨ga, la, rfl, ha1, hb1⟩; have G1 := F8.later hb1; have hV1 := below_on hW8.drew hb1; clear F8 hW8 hb1)
                | (go_at_call 13; have hX := sq_list _ _ hlt1 _ ha1; (with_reducible refine hX.mono ?_); clear hX; rintro e y2 ⟨va1, rfl, hr1, hb2⟩; obtain ⟨q1, m1, d1, rfl⟩ := row_slice hr1; have G2 := G1.later hb2; have hV2 := below_on hV1 hb2; have hi2 := hr1.ints; clear G1 hV1 hb2 hr1 ha1)
                | (go_at_call 12; obtain ⟨Ba, hia, hla⟩ := G2.ia; have hX := eq_yes hi2 (ints_pre hia hmt) hlt1; (with_reducible refine hX.mono ?_); clear hX; rintro e y3 ⟨rfl, hb3⟩; have G3 := G2.later hb3; have hV3 := below_on hV2 hb3; clear G2 hV2 hb3 hia hla hi2 Ba)
                | (go_at_call 19; have hX := sq_skip _ ys _ G3.sa n hn0 hn1; (with_reducible refine hX.mono ?_); clear hX; rintro e y4 ⟨gs, ls, rfl, hs4, hb4⟩; have G4 := G3.later hb4; have hV4 := below_on hV3 hb4; clear G3 hV3 hb4)
                | (go_at_call 13; have hX := sq_list _ _ hlt2 _ hs4; (with_reducible refine hX.mono ?_); clear hX; rintro e y5 ⟨va5, rfl, hr5, hb5⟩; obtain ⟨q5, m5, d5, rfl⟩ := row_slice hr5; have G5 := G4.later hb5; have hV5 := below_on hV4 hb5; have hi5 := hr5.ints; clear G4 hV4 hb5 hr5 hs4)
                | (go_at_call 12; obtain ⟨Ba, hia, hla⟩ := G5.ia; have hX := fun c => eq_yes hi5 (ints_post (ad := some ⟨b, off, none⟩) (c := c) hia hmt2 (.inr ⟨rfl, hnm⟩)) hlt2; (with_reducible refine (hX _).mono ?_); clear hX; rintro e y6 ⟨rfl, hb6⟩; have G6 := G5.later hb6; have hV6 := below_on hV5 hb6; clear G5 hV5 hb6 hia hla hi5 Ba)
                | (go_at_call 12; obtain ⟨Ba, hia, hla⟩ := G5.ia; have hX := fun c => eq_yes hi5 (ints_post0 (c := c) hia hmt2 hnm) hlt2; (with_reducible refine (hX _).mono ?_); clear hX; rintro e y6 ⟨rfl, hb6⟩; have G6 := G5.later hb6; have hV6 := below_on hV5 hb6; clear G5 hV5 hb6 hia hla hi5 Ba)
                | (go_at_call 13; have hX := sq_list _ _ hlt3 _ G6.al; (with_reducible refine hX.mono ?_); clear hX; rintro e y7 ⟨va7, rfl, hr7, hb7⟩; obtain ⟨q7, m7, d7, rfl⟩ := row_slice hr7; have G7 := G6.later hb7; have hV7 := below_on hV6 hb7; have hi7 := hr7.ints; clear G6 hV6 hb7 hr7)
                | (go_at_call 12; obtain ⟨Ba, hia, hla⟩ := G7.i17; have hX := eq_yes hi7 hia hlt3; (with_reducible refine hX.mono ?_); clear hX; rintro e y8 ⟨rfl, hb8⟩; have G8 := G7.later hb8; have hV8 := below_on hV7 hb8; clear G7 hV7 hb8 hia hla hi7 Ba)
                | (go_at_call 20; have hX := sq_fold _ ys _ G8.sa 7 21 #[] _ c21; (with_reducible refine hX.mono ?_); clear hX; rintro e y9 ⟨rfl, hb9⟩; have G9 := Lib.hid (G8.later hb9); have hV9 := below_on hV8 hb9; clear G8 hV8 hb9))
              rw [← hm]
              go_wp2_with fail
              exact ⟨⟨t + 1, by omega, by simp, G9.out, hV9⟩, by simp [intOf]; omega⟩
            · go_region_held3 (fun _ => True) (trivial) (first
                | (go_at_call 18; have hX := sq_take _ ys _ F8.sa n hn1; (with_reducible refine hX.mono ?_); clear hX; rintro e y1 ⟨ga, la, rfl, ha1, hb1⟩; have G1 := F8.later hb1; have hV1 := below_on hW8.drew hb1; clear F8 hW8 hb1)
                | (go_at_call 13; have hX := sq_list _ _ hlt1 _ ha1; (with_reducible refine hX.mono ?_); clear hX; rintro e y2 ⟨va1, rfl, hr1, hb2⟩; obtain ⟨q1, m1, d1, rfl⟩ := row_slice hr1; have G2 := G1.later hb2; have hV2 := below_on hV1 hb2; have hi2 := hr1.ints; clear G1 hV1 hb2 hr1 ha1)
                | (go_at_call 12; obtain ⟨Ba, hia, hla⟩ := G2.ia; have hX := eq_yes hi2 (ints_pre hia hmt) hlt1; (with_reducible refine hX.mono ?_); clear hX; rintro e y3 ⟨rfl, hb3⟩; have G3 := G2.later hb3; have hV3 := below_on hV2 hb3; clear G2 hV2 hb3 hia hla hi2 Ba)
                | (go_at_call 19; have hX := sq_skip _ ys _ G3.sa n hn0 hn1; (with_reducible refine hX.mono ?_); clear hX; rintro e y4 ⟨gs, ls, rfl, hs4, hb4⟩; have G4 := G3.later hb4; have hV4 := below_on hV3 hb4; clear G3 hV3 hb4)
                | (go_at_call 13; have hX := sq_list _ _ hlt2 _ hs4; (with_reducible refine hX.mono ?_); clear hX; rintro e y5 ⟨va5, rfl, hr5, hb5⟩; obtain ⟨q5, m5, d5, rfl⟩ := row_slice hr5; have G5 := G4.later hb5; have hV5 := below_on hV4 hb5; have hi5 := hr5.ints; clear G4 hV4 hb5 hr5 hs4)
                | (go_at_call 12; obtain ⟨Ba, hia, hla⟩ := G5.ia; have hX := eq_yes hi5 (ints_post (ad := some ⟨b, off + m, none⟩) (c := cap - m) hia hmt2 (.inl rfl)) hlt2; (with_reducible refine hX.mono ?_); clear hX; rintro e y6 ⟨rfl, hb6⟩; have G6 := G5.later hb6; have hV6 := below_on hV5 hb6; clear G5 hV5 hb6 hia hla hi5 Ba)
                | (go_at_call 13; have hX := sq_list _ _ hlt3 _ G6.al; (with_reducible refine hX.mono ?_); clear hX; rintro e y7 ⟨va7, rfl, hr7, hb7⟩; obtain ⟨q7, m7, d7, rfl⟩ := row_slice hr7; have G7 := G6.later hb7; have hV7 := below_on hV6 hb7; have hi7 := hr7.ints; clear G6 hV6 hb7 hr7)
                | (go_at_call 12; obtain ⟨Ba, hia, hla⟩ := G7.i17; have hX := eq_yes hi7 hia hlt3; (with_reducible refine hX.mono ?_); clear hX; rintro e y8 ⟨rfl, hb8⟩; have G8 := G7.later hb8; have hV8 := below_on hV7 hb8; clear G7 hV7 hb8 hia hla hi7 Ba)
                | (go_at_call 20; have hX := sq_fold _ ys _ G8.sa 7 21 #[] _ c21; (with_reducible refine hX.mono ?_); clear hX; rintro e y9 ⟨rfl, hb9⟩; have G9 := Lib.hid (G8.later hb9); have hV9 := below_on hV8 hb9; clear G8 hV8 hb9))
              rw [← hm]
              go_wp2_with fail
              exact ⟨⟨t + 1, by omega, by simp, G9.out, hV9⟩, by simp [intOf]; omega⟩
          · go_wp2_with fail
            go_ret
            exact ⟨rfl, hW0⟩
end Go.Proofs.Ytjlnfeableleeaa
