import Derived.Test.YtjlnfeableleeaaQ
namespace Go.Proofs.Ytjlnfeableleeaa
open Go Go.RowKit Go.Shelf Go.Proofs
attribute [local go_sem] eql26n eql26f eql32f eql34f eql37f eql42n eql42f wide_fn wide_depth

set_option maxHeartbeats 1000000 in
theorem cut_some (b off n c : Nat) (hc : n ≤ c) (hm : c ≤ maxLen) (W : World) : Calls Try.prog 9 #[.slice (some ⟨b, off, none⟩) n c, (Value.int .i64 (30))] W fun e W' => e = .returned (.slice (some ⟨b, off, none⟩) (min n 30) c) ∧ W' = W := by
  unfold maxLen at hm
  go_enter Try.func9, Try.ntmps9
  by_cases h : n ≤ 30
  · go_wp2_with fail
    go_ret
    exact ⟨by rw [Nat.min_eq_left h]; rfl, rfl⟩
  · go_wp2_with fail
    go_ret
    exact ⟨by rw [Nat.min_eq_right (by omega)]; rfl, rfl⟩
set_option maxHeartbeats 1000000 in
theorem cut_nil (W : World) : Calls Try.prog 9 #[.slice none 0 0, (Value.int .i64 (30))] W fun e W' => e = .returned (.slice none 0 0) ∧ W' = W := by
  go_enter Try.func9, Try.ntmps9
  go_wp2_with fail
  go_ret
  exact ⟨rfl, rfl⟩

/-- A row that the caller hands in. -/
def Par (W : World) (v : Value) (xs : List Int) : Prop :=
  (v = .slice none 0 0 ∧ xs = []) ∨ ∃ b off cap, v = .slice (some ⟨b, off, none⟩) xs.length cap ∧ b < W.heap.size ∧ xs.length ≤ cap ∧ cap ≤ maxLen ∧ ∀ j, j < xs.length → W.cell? ⟨b, off + j, none⟩ = some (Value.int .i64 (xs[j]?.getD 0))
theorem Par.ints {W : World} {v : Value} {xs : List Int} (h : Par W v xs) : Ints W v xs (fun b => b < W.heap.size) := by
  rcases h with h | ⟨b, off, cap, h1, h2, _, _, h3⟩
  · exact .inl h
  · exact .inr ⟨b, off, cap, h1, h2, h3⟩
theorem cut_par (v : Value) (xs : List Int) (W : World) (h : Par W v xs) : ∃ v', Par W v' (xs.take 30) ∧ ∀ w, Calls Try.prog 9 #[v, (Value.int .i64 (30))] w fun e w' => e = .returned v' ∧ w' = w := by
  rcases h with ⟨rfl, rfl⟩ | ⟨b, off, cap, rfl, h1, h2, h3, h4⟩
  · exact ⟨.slice none 0 0, .inl ⟨rfl, rfl⟩, cut_nil⟩
  · refine ⟨_, .inr ⟨b, off, cap, rfl, h1, by rw [List.length_take]; omega, h3, fun j hj => ?_⟩, fun w => by have := cut_some b off xs.length cap h2 h3 w; rw [List.length_take, Nat.min_comm]; exact this⟩
    rw [List.length_take] at hj
    rw [h4 j (by omega), List.getElem?_take_of_lt (by omega)]

/-- Of, and what it is made of. -/
theorem sq_of' (s : Value) (xs : List Int) (B : Nat → Prop) (hlen : xs.length ≤ 1000000) (W : World) (h : Ints W s xs B) : Calls Try.prog 10 #[s] W fun e W' =>
    ∃ g lb M Q, e = .returned (.func (.func g) #[] lb) ∧ GivesO (.func (.func g) #[] lb) xs M (fun _ => False) (fun _ => Q) ∧ InW M W' ∧ Q W' ∧ (∀ b, M b → W.heap.size ≤ b) ∧ Below W.heap.size W W' := by
  have hcl := clone_any s xs B hlen W h
  have hs : ∃ p k c, s = .slice p k c := by
    rcases h with ⟨rfl, _⟩ | ⟨_, _, _, rfl, _⟩
    · exact ⟨_, _, _, rfl⟩
    · exact ⟨_, _, _, rfl⟩
  obtain ⟨p0, k0, c0, rfl⟩ := hs
  clear h
  go_enter Try.func10, Try.ntmps10
  go_wp2_with (go_at_call 34; refine hcl.mono ?_; rintro e w1 ⟨p, k, c, rfl, hr, hb⟩)
  go_ret
  have hi := hr.ints
  refine ⟨35, _, _, _, rfl, .inl (of_gives w1.heap.size (.slice p k c) xs _ hlen), ?_, ⟨Cell.new w1 _ _, hi.of (fun b x => Below.heap_alloc _ _ _ (hr.lt' b x))⟩, ?_, hb.alloc hb.size _⟩
  · rintro b (rfl | x)
    · simp
    · have := hr.lt' b x; simp; omega
  · rintro b (rfl | x)
    · exact hb.size
    · exact (hr.lt b x).1

/-- What lazily comes, and how often it was asked. -/
theorem lazy_list (A : Nat) (sv : Value) (ys : List Int) (M : Nat → Prop) (Q : World → Prop) (hg : GivesO sv ys M (fun _ => False) (fun _ => Q)) (hl : ys.length ≤ 30) (n : Int) (hn1 : n ≤ 9223372036854775807) (w2 : World)
    (hin : InW M w2) (hq : Q w2) (hMA : ¬ M A) (hA : Cell w2 A (Value.int .i64 (0))) :
    let w4 := (((w2.alloc (.cells #[sv] 26)).alloc (.cells #[.func (.func 22) #[] #[(Value.pointer (some ⟨A, 0, none⟩))]] 32)).alloc (.cells #[.func (.func 40) #[] #[(Value.pointer (some ⟨w2.heap.size + 1, 0, none⟩)), (Value.pointer (some ⟨w2.heap.size, 0, none⟩))]] 26)).alloc (.cells #[(Value.int .i64 (n))] 3)
    Calls Try.prog 13 #[.func (.func 42) #[] #[(Value.pointer (some ⟨w2.heap.size + 1 + 1 + 1, 0, none⟩)), (Value.pointer (some ⟨w2.heap.size + 1 + 1, 0, none⟩))]] w4 fun e W' =>
      ∃ v, e = .returned v ∧ Row W' (w2.heap.size + 4) v (ys.take n.toNat) ∧ Chg (fun b => b = A) w4 W' ∧ Cell W' A (Value.int .i64 (((ys.take n.toNat).length : Int))) := by
  intro w4
  have hAl := hA.lt
  have hs4 : w4.heap.size = w2.heap.size + 4 := by simp [w4]
  have hb4 : ∀ b, b < w2.heap.size → w4.heap[b]? = w2.heap[b]? := fun b hb => (((Below.heap_alloc _ _ _ (by simp; omega)).trans (Below.heap_alloc _ _ _ (by simp; omega))).trans (Below.heap_alloc _ _ _ (by simp; omega))).trans (Below.heap_alloc _ _ _ hb)
  have h1 := map_gives (w2.heap.size + 1) w2.heap.size sv 22 #[(Value.pointer (some ⟨A, 0, none⟩))] ys ys rfl M (fun _ => False) (fun _ => Q) hg (fun b => b = A) (fun k W => Cell W A (Value.int .i64 ((k : Int))))
    (fun k W W' h _ _ hb => h.of (hb A rfl)) (fun _ => False) (fun _ => True) (fun _ _ _ _ _ _ => trivial)
    (fun k hk W hW hc _ => (c22 A k ys[k] W hc).mono (by
      rintro e W' ⟨rfl, rfl⟩
      have e : wrap64 ((k : Int) + 1) = ((k + 1 : Nat) : Int) := by unfold wrap64; omega
      rw [e]
      exact ⟨by simp [hk], Chg.setCell (S := fun b => b = A) (Chg.refl _ W) (p := ⟨A, 0, none⟩) (fun _ => rfl) _, hc.set _⟩))
    (fun b x => by subst x; exact ⟨hMA, by omega, by omega⟩) (fun _ x => x.elim) (fun x => by have := hin _ x; omega) (fun x => by have := hin _ x; omega)
  have h2 := take_gives (w2.heap.size + 1 + 1 + 1) (w2.heap.size + 1 + 1) _ n hn1 ys _ _ _ (.inl h1) (by
    rintro (x | x | x | x | x)
    · omega
    · omega
    · have := hin _ x; omega
    · omega
    · exact x) (by
    rintro (x | x | x | x | x)
    · omega
    · omega
    · have := hin _ x; omega
    · omega
    · exact x)
  refine (list_any _ _ _ _ _ (.inl h2) (by rw [List.length_take]; omega) w4 ?_ ?_).mono ?_
  · rintro b (x | x | x | x | x | x | x)
    · omega
    · omega
    · omega
    · omega
    · have := hin _ x; omega
    · omega
    · exact x.elim
  · refine ⟨?_, ?_, ?_, ?_, hg.loc 0 w2 w4 hq hin (by omega) (fun b x => hb4 b (hin b x)), hA.of (hb4 A hAl), trivial⟩
    · have := Cell.new (((w2.alloc (.cells #[sv] 26)).alloc (.cells #[.func (.func 22) #[] #[(Value.pointer (some ⟨A, 0, none⟩))]] 32)).alloc (.cells #[.func (.func 40) #[] #[(Value.pointer (some ⟨w2.heap.size + 1, 0, none⟩)), (Value.pointer (some ⟨w2.heap.size, 0, none⟩))]] 26)) (Value.int .i64 (n)) 3
      simpa using this
    · have := (Cell.new ((w2.alloc (.cells #[sv] 26)).alloc (.cells #[.func (.func 22) #[] #[(Value.pointer (some ⟨A, 0, none⟩))]] 32)) (.func (.func 40) #[] #[(Value.pointer (some ⟨w2.heap.size + 1, 0, none⟩)), (Value.pointer (some ⟨w2.heap.size, 0, none⟩))]) 26).alloc (.cells #[(Value.int .i64 (n))] 3)
      simpa using this
    · have := ((Cell.new (w2.alloc (.cells #[sv] 26)) (.func (.func 22) #[] #[(Value.pointer (some ⟨A, 0, none⟩))]) 32).alloc (.cells #[.func (.func 40) #[] #[(Value.pointer (some ⟨w2.heap.size + 1, 0, none⟩)), (Value.pointer (some ⟨w2.heap.size, 0, none⟩))]] 26)).alloc (.cells #[(Value.int .i64 (n))] 3)
      simpa using this
    · exact (((Cell.new w2 sv 26).alloc _).alloc _).alloc _
  · rintro e W' ⟨v, rfl, r1, r2, r3⟩
    rw [hs4] at r1
    exact ⟨v, rfl, r1, r2.mono (by rintro b _ (x | x); exact x.elim; exact x), r3.2.2.2.2.2.1⟩

theorem lazy_ints {W w1 w4 w5 : World} {ys : List Int} {m k b off cap : Nat} (hk : (ys.take m).length = k) (h1 : b < W.heap.size) (h4 : ∀ j, j < ys.length → W.cell? ⟨b, off + j, none⟩ = some (Value.int .i64 (ys[j]?.getD 0)))
    (hs : W.heap.size ≤ w1.heap.size) (hb : Below W.heap.size W w4) (hc : Chg (fun b => b = w1.heap.size) w4 w5) : Ints w5 (.slice (some ⟨b, off, none⟩) k cap) (ys.take m) (fun q => q = b) := by
  subst hk
  refine .inr ⟨b, off, cap, rfl, rfl, fun j hj => ?_⟩
  have hsz := hb.size
  rw [World.cell?_of_block (w := W) (a := ⟨b, off + j, none⟩) ((hc.block b (by omega) (by omega)).trans (hb.block b h1))]
  rw [List.length_take] at hj
  rw [h4 j (by omega), List.getElem?_take_of_lt (by omega)]
theorem below_alloc4 {W w : World} (h : Below W.heap.size W w) (a b c d : Obj) : Below W.heap.size W ((((w.alloc a).alloc b).alloc c).alloc d) :=
  below_on (below_on (below_on (below_on h (below_alloc _ a)) (below_alloc _ b)) (below_alloc _ c)) (below_alloc _ d)

set_option maxRecDepth 100000 in
set_option maxHeartbeats 4000000 in
theorem lazy_walk (v : Value) (xs : List Int) (n : Int) (W : World) (hP : Par W v xs) (hn0 : -9223372036854775808 ≤ n) (hn1 : n ≤ 9223372036854775807) :
    Calls Try.prog 4 #[v, (Value.int .i64 (n))] W fun e W' => e = .returned (.bool true) ∧ Below W.heap.size W W' := by
  obtain ⟨v', hp, hcut⟩ := cut_par v xs W hP
  have hl : (xs.take 30).length ≤ 30 := by rw [List.length_take]; omega
  generalize xs.take 30 = ys at hp hl
  have hii := hp.ints
  rcases hp with ⟨rfl, hy⟩ | ⟨b, off, cap, rfl, h1, h2, h3, h4⟩
  · go_enter Try.func4, Try.ntmps4
    go_wp2_with (first
      | (go_at_call 8; refine (begun_any W).mono ?_; rintro e w1 ⟨rfl, hb1⟩)
      | (go_at_call 9; refine (hcut w1).mono ?_; rintro e w1 ⟨rfl, rfl⟩)
      | (go_at_call 10; refine (sq_of' _ ys _ (by omega) _ (hii.later (fun _ x => x) (below_on hb1 (below_alloc w1 (.cells #[(Value.int .i64 (0))] 3))))).mono ?_; rintro e w2 ⟨g, lb, M, Q, rfl, hg, hin, hq, hM, hb2⟩;
         have hA := (Cell.new w1 (Value.int .i64 (0)) 3).of (hb2.block _ (by simp)); have hbw := below_on (below_on hb1 (below_alloc w1 (.cells #[(Value.int .i64 (0))] 3))) hb2;
         have hA3 := (hA.alloc (.cells #[.func (.func g) #[] lb] 26)).alloc (.cells #[.func (.func 22) #[] #[(Value.pointer (some ⟨w1.heap.size, 0, none⟩))]] 32); obtain ⟨ha1, ha2⟩ := hA3)
      | (go_at_call 14; refine (map_any _ (.inr ⟨g, lb, rfl⟩) 22 #[(Value.pointer (some ⟨w1.heap.size, 0, none⟩))] w2).mono ?_; rintro e w3 ⟨rfl, rfl⟩)
      | (go_at_call 18; refine (take_any _ (.inr ⟨_, _, rfl⟩) n _).mono ?_; rintro e w4 ⟨rfl, rfl⟩)
      | (go_at_call 13; refine (lazy_list w1.heap.size (.func (.func g) #[] lb) ys M Q hg hl n hn1 w2 hin hq (fun x => by have := hM _ x; simp at this; omega) hA).mono ?_; rintro e w5 ⟨v5, rfl, hr5, hb5, hA5⟩; obtain ⟨k, hk⟩ : ∃ k : Nat, (ys.take n.toNat).length = k := ⟨_, rfl⟩; have hrr := hr5; unfold Row at hr5; rw [hk] at hr5 hA5; obtain ⟨p5, c5, rfl⟩ := row_len hr5; have HK := Lib.hid hk;
         obtain ⟨hA5, hA6⟩ := hA5; have hkm : (k : Int) = max 0 (min n 0) := (by rw [List.length_take] at hk; rw [hy] at hk; simp at hk; omega); clear hr5 ha1 ha2 hk hii)
      | (go_at_call 12; (have e0 : (max 0 (min n 0)).toNat = 0 := (by omega); rw [e0]; refine (eq_yes (xs := ys.take n.toNat) (Bb := fun _ => False) hrr.ints (.inl ⟨rfl, by rw [hy]; simp⟩) (by rw [HK.out]; have := HK.out; rw [List.length_take] at this; omega)).mono ?_; rintro e w6 ⟨rfl, hb6⟩)))
    go_ret
    refine ⟨rfl, ?_⟩
    have e5 := hb5.below (n := W.heap.size) (by simp; have := hbw.size; omega) (fun b hb x => by have := hb1.size; omega)
    exact below_on ((below_alloc4 hbw _ _ _ _).trans e5) hb6
  · unfold maxLen at h3
    go_enter Try.func4, Try.ntmps4
    go_wp2_with (first
      | (go_at_call 8; refine (begun_any W).mono ?_; rintro e w1 ⟨rfl, hb1⟩)
      | (go_at_call 9; refine (hcut w1).mono ?_; rintro e w1 ⟨rfl, rfl⟩)
      | (go_at_call 10; refine (sq_of' _ ys _ (by omega) _ (hii.later (fun _ x => x) (below_on hb1 (below_alloc w1 (.cells #[(Value.int .i64 (0))] 3))))).mono ?_; rintro e w2 ⟨g, lb, M, Q, rfl, hg, hin, hq, hM, hb2⟩;
         have hA := (Cell.new w1 (Value.int .i64 (0)) 3).of (hb2.block _ (by simp)); have hbw := below_on (below_on hb1 (below_alloc w1 (.cells #[(Value.int .i64 (0))] 3))) hb2;
         have hA3 := (hA.alloc (.cells #[.func (.func g) #[] lb] 26)).alloc (.cells #[.func (.func 22) #[] #[(Value.pointer (some ⟨w1.heap.size, 0, none⟩))]] 32); obtain ⟨ha1, ha2⟩ := hA3)
      | (go_at_call 14; refine (map_any _ (.inr ⟨g, lb, rfl⟩) 22 #[(Value.pointer (some ⟨w1.heap.size, 0, none⟩))] w2).mono ?_; rintro e w3 ⟨rfl, rfl⟩)
      | (go_at_call 18; refine (take_any _ (.inr ⟨_, _, rfl⟩) n _).mono ?_; rintro e w4 ⟨rfl, rfl⟩)
      | (go_at_call 13; refine (lazy_list w1.heap.size (.func (.func g) #[] lb) ys M Q hg hl n hn1 w2 hin hq (fun x => by have := hM _ x; simp at this; omega) hA).mono ?_; rintro e w5 ⟨v5, rfl, hr5, hb5, hA5⟩; obtain ⟨k, hk⟩ : ∃ k : Nat, (ys.take n.toNat).length = k := ⟨_, rfl⟩; have hrr := hr5; unfold Row at hr5; rw [hk] at hr5 hA5; obtain ⟨p5, c5, rfl⟩ := row_len hr5; have HK := Lib.hid hk;
         obtain ⟨hA5, hA6⟩ := hA5; have hkm : (k : Int) = max 0 (min n (ys.length : Int)) := (by rw [List.length_take] at hk; omega); clear hr5 ha1 ha2 hk hii)
      | (go_at_call 12; (have e0 : (max 0 (min n (ys.length : Int))).toNat = k := (by omega); rw [e0]; refine (eq_yes (xs := ys.take n.toNat) hrr.ints (lazy_ints HK.out h1 h4 hb1.size (below_alloc4 hbw _ _ _ _) hb5) (by rw [HK.out]; have := HK.out; rw [List.length_take] at this; omega)).mono ?_; rintro e w6 ⟨rfl, hb6⟩)))
    go_ret
    refine ⟨rfl, ?_⟩
    have e5 := hb5.below (n := W.heap.size) (by simp; have := hbw.size; omega) (fun b hb x => by have := hb1.size; omega)
    exact below_on ((below_alloc4 hbw _ _ _ _).trans e5) hb6
end Go.Proofs.Ytjlnfeableleeaa
