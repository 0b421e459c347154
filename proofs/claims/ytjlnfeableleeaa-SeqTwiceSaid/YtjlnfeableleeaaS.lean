import Derived.Test.YtjlnfeableleeaaR
namespace Go.Proofs.Ytjlnfeableleeaa
open Go Go.RowKit Go.Shelf Go.Proofs
attribute [local go_sem] eql26n eql26f eql32f eql34f eql37f eql42n eql42f wide_fn wide_depth

theorem six (l : List Int) : (l.filter (fun x => x.tmod 2 == 0)).filter (fun x => x.tmod 3 == 0) = l.filter (fun x => x.tmod 6 == 0) := by
  rw [List.filter_filter]
  congr 1
  funext x
  rw [Bool.eq_iff_iff]
  simp only [Bool.and_eq_true, beq_iff_eq]
  have h2 := Int.dvd_iff_tmod_eq_zero (a := 2) (b := x)
  have h3 := Int.dvd_iff_tmod_eq_zero (a := 3) (b := x)
  have h6 := Int.dvd_iff_tmod_eq_zero (a := 6) (b := x)
  rw [← h2, ← h3, ← h6]
  omega

theorem twice_len (n k : Int) (L : Nat) (hn : 0 ≤ n) (hk : 0 ≤ k) : (min (min n L + min k L) L).toNat - (min n L).toNat = min k.toNat (L - n.toNat) := by
  obtain ⟨a, rfl⟩ := Int.eq_ofNat_of_zero_le hn
  obtain ⟨b, rfl⟩ := Int.eq_ofNat_of_zero_le hk
  omega
theorem twice_off (n k : Int) (L : Nat) (hn : 0 ≤ n) (hk : 0 ≤ k) (h : (min (min n L + min k L) L).toNat - (min n L).toNat ≠ 0) : (min n (L : Int)).toNat = n.toNat := by
  obtain ⟨a, rfl⟩ := Int.eq_ofNat_of_zero_le hn
  obtain ⟨b, rfl⟩ := Int.eq_ofNat_of_zero_le hk
  omega
theorem twice_cap (n k : Int) (L cap : Nat) (h : L ≤ cap) (hc : cap = (min n (L : Int)).toNat) : (min (min n L + min k L) L).toNat - (min n L).toNat = 0 := by
  omega
theorem twice_ints {W w : World} {ys : List Int} {i j b off o' l' c' : Nat} (h1 : b < W.heap.size) (h4 : ∀ j, j < ys.length → W.cell? ⟨b, off + j, none⟩ = some (Value.int .i64 (ys[j]?.getD 0))) (hb : Below W.heap.size W w)
    (hl : l' = min j (ys.length - i)) (ho : l' ≠ 0 → o' = off + i) : Ints w (.slice (some ⟨b, o', none⟩) l' c') ((ys.drop i).take j) (fun q => q = b) := by
  have e : l' = ((ys.drop i).take j).length := by rw [List.length_take, List.length_drop]; exact hl
  refine .inr ⟨b, o', c', by rw [e], rfl, fun q hq => ?_⟩
  rw [← e] at hq
  rw [ho (by omega), World.cell?_of_block (w := W) (a := ⟨b, off + i + q, none⟩) (hb.block b h1), Nat.add_assoc, h4 (i + q) (by omega), List.getElem?_take_of_lt (by omega), List.getElem?_drop]

theorem twice_slice {W w : World} {ys : List Int} {n k : Int} {b off cap : Nat} (h1 : b < W.heap.size) (h2 : ys.length ≤ cap) (h4 : ∀ j, j < ys.length → W.cell? ⟨b, off + j, none⟩ = some (Value.int .i64 (ys[j]?.getD 0))) (hb : Below W.heap.size W w)
    (hn : 0 ≤ n) (hk : 0 ≤ k) : Ints w (.slice (if cap = (min n (ys.length : Int)).toNat then some ⟨b, off, none⟩ else some ⟨b, off + (min n (ys.length : Int)).toNat, none⟩) ((min (min n (ys.length : Int) + min k ys.length) ys.length).toNat - (min n (ys.length : Int)).toNat) (cap - (min n (ys.length : Int)).toNat)) ((ys.drop n.toNat).take k.toNat) (fun q => q = b) := by
  split
  · rename_i hc
    have e := twice_cap n k ys.length cap h2 hc
    exact twice_ints h1 h4 hb (twice_len n k ys.length hn hk) (fun h' => absurd e h')
  · exact twice_ints h1 h4 hb (twice_len n k ys.length hn hk) (fun h => by rw [twice_off n k ys.length hn hk h])

theorem twice_nil {w : World} {ys : List Int} {i j : Nat} {B : Nat → Prop} (hy : ys = []) : Ints w (.slice none 0 0) ((ys.drop i).take j) B := .inl ⟨rfl, by rw [hy]; simp⟩

set_option maxRecDepth 100000 in
set_option maxHeartbeats 1000000 in
theorem twice_walk (v : Value) (xs : List Int) (n k : Int) (W : World) (hP : Par W v xs) (hn0 : -9223372036854775808 ≤ n) (hn1 : n ≤ 9223372036854775807) (hk0 : -9223372036854775808 ≤ k) (hk1 : k ≤ 9223372036854775807) :
    Calls Try.prog 6 #[v, (Value.int .i64 (n)), (Value.int .i64 (k))] W fun e W' => e = .returned (.bool true) ∧ Below W.heap.size W W' := by
  obtain ⟨v', hp, hcut⟩ := cut_par v xs W hP
  have hl : (xs.take 30).length ≤ 30 := by rw [List.length_take]; omega
  generalize xs.take 30 = ys at hp hl
  have hii := hp.ints
  by_cases hneg : n < 0 ∨ k < 0
  · clear hii hp
    go_enter Try.func6, Try.ntmps6
    go_wp2_with (first
      | (go_at_call 8; refine (begun_any W).mono ?_; rintro e w1 ⟨rfl, hb1⟩)
      | (go_at_call 9; refine (hcut w1).mono ?_; rintro e w1 ⟨rfl, rfl⟩))
    all_goals (go_ret; exact ⟨rfl, hb1⟩)
  · rcases hp with ⟨rfl, hy⟩ | ⟨b, off, cap, rfl, h1, h2, h3, h4⟩
    · have hn' : 0 ≤ n := by omega
      have hk' : 0 ≤ k := by omega
      have hl6 : (ys.filter (fun x => x.tmod 6 == 0)).length ≤ 1000000 := Nat.le_trans (List.length_filter_le _ _) (by omega)
      have hlen : ((ys.drop n.toNat).take k.toNat).length ≤ 1000000 := by rw [List.length_take, List.length_drop]; omega
      go_enter Try.func6, Try.ntmps6
      go_wp2_with (first
        | (go_at_call 8; refine (begun_any W).mono ?_; rintro e w1 ⟨rfl, hb1⟩)
        | (go_at_call 9; refine (hcut w1).mono ?_; rintro e w1 ⟨rfl, rfl⟩)
        | (go_at_call 10; refine (sq_of _ ys _ (by omega) _ (hii.later (fun _ x => x) hb1)).mono ?_; rintro e w2 ⟨g, lb, rfl, hs, hb2⟩; have hb2 := below_on hb1 hb2; clear hii hb1)
        | (go_at_call 19; refine (sq_skip _ ys w2 hs n hn0 hn1).mono ?_; rintro e w3 ⟨g3, lb3, rfl, hs3, hb3⟩; have hs := hs.later hb3; have hb3 := below_on hb2 hb3; clear hb2)
        | (go_at_call 18; refine (sq_take _ _ w3 hs3 k hk1).mono ?_; rintro e w4 ⟨g4, lb4, rfl, hs4, hb4⟩; have hs := hs.later hb4; have hb4 := below_on hb3 hb4; clear hb3 hs3)
        | (go_at_call 13; refine (sq_list _ _ (by rw [List.length_take, List.length_drop]; omega) _ hs4).mono ?_; rintro e w5 ⟨v5, rfl, hr5, hb5⟩; obtain ⟨p5, k5, c5, rfl⟩ := row_slice hr5; have hs := hs.later hb5; have hb5 := below_on hb4 hb5; clear hb4 hs4; have hi5 := hr5.ints; have hl5 := hr5.lt'; clear hr5)
        | (go_at_call 16; refine (sq_keep _ ys w5 hs 25 #[] _ c25).mono ?_; rintro e w6 ⟨g6, lb6, rfl, hs6, hb6⟩; have hs := hs.later hb6; have hi5 := hi5.on hl5 hb6; have hb6 := below_on hb5 hb6; clear hb5 hl5)
        | (go_at_call 16; refine (sq_keep _ _ w6 hs6 26 #[] _ c26).mono ?_; rintro e w7 ⟨g7, lb7, rfl, hs7, hb7⟩; have hs := hs.later hb7; have hi5 := hi5.1.on hi5.2 hb7; have hb7 := below_on hb6 hb7; clear hb6 hs6; rw [six] at hs7)
        | (go_at_call 13; refine (sq_list _ _ hl6 _ hs7).mono ?_; rintro e w8 ⟨v8, rfl, hr8, hb8⟩; obtain ⟨p8, k8, c8, rfl⟩ := row_slice hr8; have hs := hs.later hb8; have hi5 := hi5.1.on hi5.2 hb8; have hb8 := below_on hb7 hb8; clear hb7 hs7; have hi8 := hr8.ints; have hl8 := hr8.lt'; clear hr8)
        | (go_at_call 12; have e0 : (min (min n 0 + min k 0) 0).toNat - (min n 0).toNat = 0 := (by omega); rw [e0]; refine (eq_yes (Bb := fun _ => False) hi5.1 (twice_nil hy) hlen).mono ?_; rintro e w9 ⟨rfl, hb9⟩; have hs := hs.later hb9; have hi8 := hi8.on hl8 hb9; have hb9 := below_on hb8 hb9; clear hb8 hl8 hi5)
        | (go_at_call 16; refine (sq_keep _ _ w9 hs 27 #[] _ c27).mono ?_; rintro e wa ⟨ga, lba, rfl, hsa, hba⟩; have hi8 := hi8.1.on hi8.2 hba; have hba := below_on hb9 hba; clear hb9)
        | (go_at_call 13; refine (sq_list _ _ hl6 _ hsa).mono ?_; rintro e wb ⟨vb, rfl, hrb, hbb⟩; obtain ⟨pb, kb, cb, rfl⟩ := row_slice hrb; have hi8 := hi8.1.on hi8.2 hbb; have hbb := below_on hba hbb; clear hba hsa; have hib := hrb.ints; clear hrb)
        | (go_at_call 12; refine (eq_yes hi8.1 hib hl6).mono ?_; rintro e wc ⟨rfl, hbc⟩; have hbc := below_on hbb hbc; clear hbb))
      all_goals (go_ret; exact ⟨rfl, hbc⟩)
    · unfold maxLen at h3
      have hn' : 0 ≤ n := by omega
      have hk' : 0 ≤ k := by omega
      have hl6 : (ys.filter (fun x => x.tmod 6 == 0)).length ≤ 1000000 := Nat.le_trans (List.length_filter_le _ _) (by omega)
      have hlen : ((ys.drop n.toNat).take k.toNat).length ≤ 1000000 := by rw [List.length_take, List.length_drop]; omega
      go_enter Try.func6, Try.ntmps6
      go_wp2_with (first
        | (go_at_call 8; refine (begun_any W).mono ?_; rintro e w1 ⟨rfl, hb1⟩)
        | (go_at_call 9; refine (hcut w1).mono ?_; rintro e w1 ⟨rfl, rfl⟩)
        | (go_at_call 10; refine (sq_of _ ys _ (by omega) _ (hii.later (fun _ x => x) hb1)).mono ?_; rintro e w2 ⟨g, lb, rfl, hs, hb2⟩; have hb2 := below_on hb1 hb2; clear hii hb1)
        | (go_at_call 19; refine (sq_skip _ ys w2 hs n hn0 hn1).mono ?_; rintro e w3 ⟨g3, lb3, rfl, hs3, hb3⟩; have hs := hs.later hb3; have hb3 := below_on hb2 hb3; clear hb2)
        | (go_at_call 18; refine (sq_take _ _ w3 hs3 k hk1).mono ?_; rintro e w4 ⟨g4, lb4, rfl, hs4, hb4⟩; have hs := hs.later hb4; have hb4 := below_on hb3 hb4; clear hb3 hs3)
        | (go_at_call 13; refine (sq_list _ _ (by rw [List.length_take, List.length_drop]; omega) _ hs4).mono ?_; rintro e w5 ⟨v5, rfl, hr5, hb5⟩; obtain ⟨p5, k5, c5, rfl⟩ := row_slice hr5; have hs := hs.later hb5; have hb5 := below_on hb4 hb5; clear hb4 hs4; have hi5 := hr5.ints; have hl5 := hr5.lt'; clear hr5)
        | (go_at_call 16; refine (sq_keep _ ys w5 hs 25 #[] _ c25).mono ?_; rintro e w6 ⟨g6, lb6, rfl, hs6, hb6⟩; have hs := hs.later hb6; have hi5 := hi5.on hl5 hb6; have hb6 := below_on hb5 hb6; clear hb5 hl5)
        | (go_at_call 16; refine (sq_keep _ _ w6 hs6 26 #[] _ c26).mono ?_; rintro e w7 ⟨g7, lb7, rfl, hs7, hb7⟩; have hs := hs.later hb7; have hi5 := hi5.1.on hi5.2 hb7; have hb7 := below_on hb6 hb7; clear hb6 hs6; rw [six] at hs7)
        | (go_at_call 13; refine (sq_list _ _ hl6 _ hs7).mono ?_; rintro e w8 ⟨v8, rfl, hr8, hb8⟩; obtain ⟨p8, k8, c8, rfl⟩ := row_slice hr8; have hs := hs.later hb8; have hi5 := hi5.1.on hi5.2 hb8; have hb8 := below_on hb7 hb8; clear hb7 hs7; have hi8 := hr8.ints; have hl8 := hr8.lt'; clear hr8)
        | (go_at_call 12; have hU := twice_slice (cap := cap) h1 h2 h4 hb8 hn' hk'; generalize (if cap = (min n (ys.length : Int)).toNat then (some ⟨b, off, none⟩ : Option Addr) else some ⟨b, off + (min n (ys.length : Int)).toNat, none⟩) = pz at hU ⊢; refine (eq_yes hi5.1 hU hlen).mono ?_; rintro e w9 ⟨rfl, hb9⟩; have hs := hs.later hb9; have hi8 := hi8.on hl8 hb9; have hb9 := below_on hb8 hb9; clear hb8 hl8 hi5 hU)
        | (go_at_call 16; refine (sq_keep _ _ w9 hs 27 #[] _ c27).mono ?_; rintro e wa ⟨ga, lba, rfl, hsa, hba⟩; have hi8 := hi8.1.on hi8.2 hba; have hba := below_on hb9 hba; clear hb9)
        | (go_at_call 13; refine (sq_list _ _ hl6 _ hsa).mono ?_; rintro e wb ⟨vb, rfl, hrb, hbb⟩; obtain ⟨pb, kb, cb, rfl⟩ := row_slice hrb; have hi8 := hi8.1.on hi8.2 hbb; have hbb := below_on hba hbb; clear hba hsa; have hib := hrb.ints; clear hrb)
        | (go_at_call 12; refine (eq_yes hi8.1 hib hl6).mono ?_; rintro e wc ⟨rfl, hbc⟩; have hbc := below_on hbb hbc; clear hbb))
      all_goals (go_ret; exact ⟨rfl, hbc⟩)
end Go.Proofs.Ytjlnfeableleeaa
