import Derived.Test.YtjlnfeableleeaaK
namespace Go.Proofs.Ytjlnfeableleeaa
open Go Go.RowKit Go.Shelf Go.Proofs
attribute [local go_sem] Oper.semAt_some
attribute [local go_sem] eql26n eql26f eql32f eql34f eql37f eql42n eql42f wide_fn wide_depth

/-- low is the first of the least. -/
def First (key : Int → Int) (L : List Rest) (low : Nat) : Prop := ∃ hl : low < L.length, (∀ j (hj : j < L.length), key L[low].h ≤ key L[j].h) ∧ (∀ j (hj : j < low), key L[low].h < key (L[j]'(by omega)).h)

theorem LeftIn.drewN {W : World} {g : Nat} {L : List Rest} (h : LeftIn W g L) (q : Nat) : LeftIn (W.drewN q) g L := ⟨h.cells, h.pos, h.ints⟩

set_option maxRecDepth 100000 in
set_option maxHeartbeats 1000000 in
/-- next: the first of the least. -/
theorem f47_any (gf : Nat) (lf : Array Value) (key : Int → Int) (hless : Lss (.func (.func gf) #[] lf) key) (g cap n : Nat) (L : List Rest) (HN : Hid (L.length = n)) (hL : 0 < n) (hm : n ≤ 1000000) (W : World) (h : LeftIn W g L) :
    Calls Try.prog 47 #[.func (.func gf) #[] lf, .slice (some ⟨g, 0, none⟩) n cap] W fun e W' => ∃ low : Nat, First key L low ∧ e = .returned (Value.int .i64 ((low : Int))) ∧ ∃ q, W' = W.drewN q := by
  obtain ⟨R, hR⟩ : ∃ R : Ending → World → Prop, (fun (e : Ending) (W' : World) => ∃ low : Nat, First key L low ∧ e = .returned (Value.int .i64 ((low : Int))) ∧ ∃ q, W' = W.drewN q) = R := ⟨_, rfl⟩
  rw [hR]
  have HR := Lib.hid hR
  clear hR
  have h52 := f52_any gf lf key hless g cap n L HN hL hm W h
  refine (callsIn_wide (n := 0)).1 ?_
  refine callsIn_of_wp Try.func47 rfl trivial ?_ rfl
  simp only [Try.ntmps47, List.size_toArray, List.length_cons, List.length_nil, Nat.reduceAdd, Nat.reduceSub, Array.replicate_succ, Array.replicate_zero, List.push_toArray, List.append_toArray, List.nil_append, List.cons_append]
  gi_wp2_with (gi_at_call 52; refine (callsIn_wide.2 h52).mono ?_; clear h52; rintro e w1 ⟨low, hl, rfl, f1, f2, q0, rfl⟩; have HF : Hid (First key L low) := Lib.hid ⟨hl, f1, f2⟩; clear f1 f2)
  gi_loopw [13] (fun i wr => ∃ k : Nat, k ≤ low ∧ i = .int .i64 (k : Int) ∧ ∃ q, wr = W.drewN q) (fun i _ => n - (intOf i).toNat)
  case atStart => exact ⟨0, Nat.zero_le _, rfl, q0, rfl⟩
  case round =>
    obtain ⟨k, hk, rfl, q, rfl⟩ := hrel
    have hln : low < n := by rw [← HN.out]; exact hl
    have hkn : k < n := by omega
    have hkl : k < L.length := by rw [HN.out]; exact hkn
    have h53 := f53_any gf lf key hless g cap n L HN hm k hkl (W.drewN (q + 1)) (h.drewN _)
    have x1 := h.cells k hkl
    have x2 := h.cells low hl
    have x3 := h.head hkl
    have x4 := h.head hl
    have x5 := (h.pos _ (List.getElem_mem hkl)).1
    have x6 := (h.pos _ (List.getElem_mem hl)).1
    have x7 := (h.pos _ (List.getElem_mem hkl)).2
    have x8 := (h.pos _ (List.getElem_mem hl)).2
    obtain ⟨hk', hke⟩ : ∃ a, L[k].h = a := ⟨_, rfl⟩
    obtain ⟨hl', hle⟩ : ∃ a, L[low].h = a := ⟨_, rfl⟩
    obtain ⟨⟨b1, o1, c1, xs1⟩, e1⟩ : ∃ p, L[k] = p := ⟨_, rfl⟩
    obtain ⟨⟨b2, o2, c2, xs2⟩, e2⟩ : ∃ p, L[low] = p := ⟨_, rfl⟩
    have hcmp : k < low → decide (key hl' < key hk') = true := fun hlt => by
      obtain ⟨_, _, f2⟩ := HF.out
      have := f2 k hlt
      rw [hke, hle] at this
      exact decide_eq_true this
    have hno : k = low → ∀ r : Bool, (r = true → ∃ (j : Nat) (hj : j < L.length), key L[j].h < key L[k].h) → r = false := fun e r hr => by
      subst e
      cases r with
      | false => rfl
      | true =>
        obtain ⟨j, hj, hjl⟩ := hr rfl
        obtain ⟨_, f1, _⟩ := HF.out
        have := f1 j hj
        omega
    have HNO := Lib.hid hno
    rw [hke] at x3
    rw [hle] at x4
    rw [e1] at x1 x3 x5 x7
    rw [e2] at x2 x4 x6 x8
    unfold Rest.v at x1 x2
    dsimp only at x1 x2 x3 x4 x5 x6 x7 x8
    have HC := Lib.hid hcmp
    clear h hke hle e1 e2 hcmp hno
    by_cases hkl' : k < low
    · have HRr : Hid (decide (key hl' < key hk') = true) := Lib.hid (HC.out hkl')
      have t1 : ((k : Int) != (low : Int)) = true := by simp; omega
      have t2 : ((k : Int) == (low : Int)) = false := by simp; omega
      clear h53
      gi_wp2_with fail
      refine wpIn_region_par (m := 0) rfl 16 [(Value.int .i64 ((k : Int))), (Value.int .i64 ((low : Int))), .bool true, .bool true, .func (.func gf) #[] lf, .slice (some ⟨g, 0, none⟩) n cap, (Value.int .i64 ((low : Int))), .pointer (some ⟨g, low, none⟩), .slice (some ⟨b2, o2, none⟩) xs2.length c2, .pointer (some ⟨b2, o2, none⟩), (Value.int .i64 (hl')), .slice (some ⟨b1, o1, none⟩) xs1.length c1, .pointer (some ⟨b1, o1, none⟩), (Value.int .i64 (hk')), .bool true, .bool true] (fun _ w => w = W.drewN (q + 1))
        { tmps := #[.func (.func gf) #[] lf, .slice (some ⟨g, 0, none⟩) n cap, undef, undef, u4, (Value.int .i64 ((low : Int))), (Value.int .i64 ((k : Int))), .slice (some ⟨b1, o1, none⟩) xs1.length c1, .func (.func gf) #[] lf, .slice (some ⟨g, 0, none⟩) n cap, (Value.int .i64 ((low : Int))), .slice (some ⟨g, 0, none⟩) n cap, (Value.int .i64 ((n : Int))), (Value.int .i64 ((k : Int))), .bool true, (Value.int .i64 ((k : Int))), .pointer (some ⟨g, k, none⟩), .slice (some ⟨b1, o1, none⟩) xs1.length c1, (Value.int .i64 ((k : Int))), (Value.int .i64 ((low : Int))), .bool true, .bool true, .func (.func gf) #[] lf, .slice (some ⟨g, 0, none⟩) n cap, (Value.int .i64 ((low : Int))), .pointer (some ⟨g, low, none⟩), .slice (some ⟨b2, o2, none⟩) xs2.length c2, .pointer (some ⟨b2, o2, none⟩), (Value.int .i64 (hl')), .slice (some ⟨b1, o1, none⟩) xs1.length c1, .pointer (some ⟨b1, o1, none⟩), (Value.int .i64 (hk')), .bool true, .bool true, u34, u35, u36, u37, u38, u39, u40, undef], defers := [] }
        (by kernel_rfl) (by kernel_rfl) (by simp only [putA, dstAt, Act.put, List.getElem?_toArray, List.getElem?_cons_zero, List.getElem?_cons_succ, Option.bind_some, List.setIfInBounds_toArray, List.set_cons_zero, List.set_cons_succ, List.getD_cons_zero, List.getD_cons_succ]) (by kernel_rfl) rfl ?zheads ?ztail
      case zheads =>
        refine ⟨?z0, ?z1, ?z2, ?z3, ?z4, ?z5, ?z6, ?z7, ?z8, ?z9, ?z10, ?z11, ?z12, ?z13, ?z14, ?z15, trivial⟩
        case z0 =>
          rintro l w hs hl rfl
          refine givesIn_value (by rfl) ?_ rfl
          go_simp
        case z1 =>
          rintro l w hs hl rfl
          refine givesIn_value (by rfl) ?_ rfl
          go_simp
        case z2 =>
          rintro l w hs hl rfl
          refine givesIn_value (by rfl) ?_ rfl
          go_simp
        case z3 =>
          rintro l w hs hl rfl
          refine givesIn_value (by rfl) ?_ rfl
          go_simp
        case z4 =>
          rintro l w hs hl rfl
          refine givesIn_value (by rfl) ?_ rfl
          go_simp
        case z5 =>
          rintro l w hs hl rfl
          refine givesIn_value (by rfl) ?_ rfl
          go_simp
        case z6 =>
          rintro l w hs hl rfl
          refine givesIn_value (by rfl) ?_ rfl
          go_simp
        case z7 =>
          rintro l w hs hl rfl
          refine givesIn_value (by rfl) ?_ rfl
          go_simp
        case z8 =>
          rintro l w hs hl rfl
          refine givesIn_value (by rfl) ?_ rfl
          go_simp
        case z9 =>
          rintro l w hs hl rfl
          refine givesIn_value (by rfl) ?_ rfl
          go_simp
        case z10 =>
          rintro l w hs hl rfl
          refine givesIn_value (by rfl) ?_ rfl
          go_simp
        case z11 =>
          rintro l w hs hl rfl
          refine givesIn_value (by rfl) ?_ rfl
          go_simp
        case z12 =>
          rintro l w hs hl rfl
          refine givesIn_value (by rfl) ?_ rfl
          go_simp
        case z13 =>
          rintro l w hs hl rfl
          refine givesIn_value (by rfl) ?_ rfl
          go_simp
        case z14 =>
          rintro l w hs hl rfl
          exact givesIn_call (.func (.func gf) #[] lf) [(Value.int .i64 (hl')), (Value.int .i64 (hk'))] (by rfl) rfl rfl ((hless hl' hk' _).mono (by rintro e w' ⟨rfl, rfl⟩; exact ⟨by rw [HRr.out], rfl⟩))
        case z15 =>
          rintro l w hs hl rfl
          refine givesIn_value (by rfl) ?_ rfl
          go_simp
      case ztail =>
        rintro w rfl
        dsimp only [List.drop]
        gi_wp2_with fail
        exact ⟨⟨k + 1, by omega, by simp, q + 1, rfl⟩, by simp [intOf]; omega⟩
    · have t1 : ((k : Int) != (low : Int)) = false := by simp; omega
      have t2 : ((k : Int) == (low : Int)) = true := by simp; omega
      have hke : k = low := by omega
      have HE := Lib.hid hke
      clear hke
      gi_wp2_with fail
      refine wpIn_region_par (m := 0) rfl 16 [(Value.int .i64 ((k : Int))), (Value.int .i64 ((low : Int))), .bool false, .bool false, undef, undef, undef, undef, undef, undef, undef, undef, undef, undef, undef, .bool false] (fun _ w => w = W.drewN (q + 1))
        { tmps := #[.func (.func gf) #[] lf, .slice (some ⟨g, 0, none⟩) n cap, undef, undef, u4, (Value.int .i64 ((low : Int))), (Value.int .i64 ((k : Int))), .slice (some ⟨b1, o1, none⟩) xs1.length c1, .func (.func gf) #[] lf, .slice (some ⟨g, 0, none⟩) n cap, (Value.int .i64 ((low : Int))), .slice (some ⟨g, 0, none⟩) n cap, (Value.int .i64 ((n : Int))), (Value.int .i64 ((k : Int))), .bool true, (Value.int .i64 ((k : Int))), .pointer (some ⟨g, k, none⟩), .slice (some ⟨b1, o1, none⟩) xs1.length c1, (Value.int .i64 ((k : Int))), (Value.int .i64 ((low : Int))), .bool false, .bool false, undef, undef, undef, undef, undef, undef, undef, undef, undef, undef, undef, .bool false, u34, u35, u36, u37, u38, u39, u40, undef], defers := [] }
        (by kernel_rfl) (by kernel_rfl) (by simp only [putA, dstAt, Act.put, List.getElem?_toArray, List.getElem?_cons_zero, List.getElem?_cons_succ, Option.bind_some, List.setIfInBounds_toArray, List.set_cons_zero, List.set_cons_succ, List.getD_cons_zero, List.getD_cons_succ]) (by kernel_rfl) rfl ?yheads ?ytail
      case yheads =>
        refine ⟨?y0, ?y1, ?y2, ?y3, ?y4, ?y5, ?y6, ?y7, ?y8, ?y9, ?y10, ?y11, ?y12, ?y13, ?y14, ?y15, trivial⟩
        case y0 =>
          rintro l w hs hl rfl
          refine givesIn_value (by rfl) ?_ rfl
          go_simp
        case y1 =>
          rintro l w hs hl rfl
          refine givesIn_value (by rfl) ?_ rfl
          go_simp
        case y2 =>
          rintro l w hs hl rfl
          refine givesIn_value (by rfl) ?_ rfl
          go_simp
        case y3 =>
          rintro l w hs hl rfl
          refine givesIn_value (by rfl) ?_ rfl
          go_simp
        case y4 =>
          rintro l w hs hl rfl
          exact givesIn_skip (by rfl) rfl
        case y5 =>
          rintro l w hs hl rfl
          exact givesIn_skip (by rfl) rfl
        case y6 =>
          rintro l w hs hl rfl
          exact givesIn_skip (by rfl) rfl
        case y7 =>
          rintro l w hs hl rfl
          exact givesIn_skip (by rfl) rfl
        case y8 =>
          rintro l w hs hl rfl
          exact givesIn_skip (by rfl) rfl
        case y9 =>
          rintro l w hs hl rfl
          exact givesIn_skip (by rfl) rfl
        case y10 =>
          rintro l w hs hl rfl
          exact givesIn_skip (by rfl) rfl
        case y11 =>
          rintro l w hs hl rfl
          exact givesIn_skip (by rfl) rfl
        case y12 =>
          rintro l w hs hl rfl
          exact givesIn_skip (by rfl) rfl
        case y13 =>
          rintro l w hs hl rfl
          exact givesIn_skip (by rfl) rfl
        case y14 =>
          rintro l w hs hl rfl
          exact givesIn_skip (by rfl) rfl
        case y15 =>
          rintro l w hs hl rfl
          refine givesIn_value (by rfl) ?_ rfl
          go_simp
      case ytail =>
        rintro w rfl
        dsimp only [List.drop]
        gi_wp2_with (gi_at_call 53; refine (callsIn_wide.2 h53).mono ?_; clear h53; rintro e w1 ⟨r, rfl, g1, g2, q1, rfl⟩; obtain rfl : r = false := HNO.out HE.out r g1; clear g1 g2)
        have he := HE.out
        subst he
        rw [← HR.out]
        exact ⟨k, HF.out, rfl, q + 1 + q1, rfl⟩
end Go.Proofs.Ytjlnfeableleeaa
