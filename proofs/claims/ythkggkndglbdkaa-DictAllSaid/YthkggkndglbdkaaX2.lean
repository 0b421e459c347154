import Derived.Test.YthkggkndglbdkaaX
namespace Go.Proofs.Ythkggkndglbdkaa.S
open Go Go.RowKit Go.Shelf Go.Proofs Go.Proofs.Ythkggkndglbdkaa
variable {M : Nat}

theorem below_key (s : K M) : ∀ {L : List (K M × Int)}, Srt keyOf L → ∀ i (h : i < L.length), (keyOf L[i].1 < keyOf s ↔ i < below keyOf s L)
  | [], _, i, h => by simp at h
  | (a, w) :: r, hs, i, h => by
    unfold Srt at hs
    rw [List.pairwise_cons] at hs
    rw [below]
    by_cases ha : keyOf a < keyOf s
    · rw [if_pos ha]
      cases i with
      | zero => simp [ha]
      | succ i =>
        have ih := below_key s hs.2 i (by simpa using h)
        simp only [List.getElem_cons_succ]
        rw [ih]; omega
    · rw [if_neg ha]
      cases i with
      | zero => simp [ha]
      | succ i =>
        have h1 : keyOf a < keyOf (r[i]'(by simpa using h)).1 := hs.1 _ (List.getElem_mem _)
        simp only [List.getElem_cons_succ]
        omega
theorem upTo_key (s : K M) {L : List (K M × Int)} (hs : Srt keyOf L) (i : Nat) (h : i < L.length) : keyOf L[i].1 ≤ keyOf s ↔ i < upTo s L := by
  have hb := below_key s hs i h
  unfold upTo
  have hmono : ∀ j k (hj : j < L.length) (hk : k < L.length), j < k → keyOf L[j].1 < keyOf L[k].1 := fun j k hj hk hjk => List.pairwise_iff_getElem.1 hs j k hj hk hjk
  rcases Nat.lt_trichotomy i (below keyOf s L) with h1 | h1 | h1
  · have := hb.2 h1
    omega
  · have hn := mt hb.1 (by omega)
    by_cases hh : has s L = true
    · rw [if_pos hh]
      obtain ⟨p, hp, e⟩ := List.mem_map.1 (has_mem.1 hh)
      obtain ⟨j, hj, ej⟩ := List.getElem_of_mem hp
      have hjs : keyOf L[j].1 = keyOf s := by rw [ej, e]
      have hbj := below_key s hs j hj
      rcases Nat.lt_trichotomy j i with h2 | h2 | h2
      · have := hbj.2 (by omega); omega
      · subst h2; omega
      · have := hmono i j h hj h2; omega
    · rw [if_neg hh]
      have hne : keyOf L[i].1 ≠ keyOf s := fun e => hh (has_mem.2 (List.mem_map.2 ⟨L[i], List.getElem_mem _, key_ext e⟩))
      omega
  · have hbl : below keyOf s L < L.length := by omega
    have h2 := mt (below_key s hs _ hbl).1 (by omega)
    have := hmono _ i hbl h h1
    split <;> omega
theorem upTo_le (s : K M) {L : List (K M × Int)} (hs : Srt keyOf L) : upTo s L ≤ L.length := by
  rcases Nat.lt_or_ge (upTo s L) (L.length + 1) with h | h
  · omega
  · have hb := below_le' (key := keyOf) (k := s) (L := L)
    unfold upTo at h
    by_cases hh : has s L = true
    · rw [if_pos hh] at h
      obtain ⟨p, hp, e⟩ := List.mem_map.1 (has_mem.1 hh)
      obtain ⟨j, hj, ej⟩ := List.getElem_of_mem hp
      have := (below_key s hs j hj).2 (by omega)
      rw [ej, e] at this
      omega
    · rw [if_neg hh] at h; omega
theorem span_nums (op : Int) (ho : isSp op) (s : K M) {L : List (K M × Int)} (hs : Srt keyOf L) : ∃ F T : Nat, spF op s L = (F : Int) ∧ spT op s L = (T : Int) ∧ F ≤ T ∧ T ≤ L.length ∧
    ∀ i (h : i < L.length), yesB op (keyOf L[i].1) (keyOf s) = decide (F ≤ i ∧ i < T) := by
  have h1 := below_le' (key := keyOf) (k := s) (L := L)
  have h2 := upTo_le s hs
  have h3 : below keyOf s L ≤ upTo s L := by unfold upTo; omega
  have hb := below_key s hs
  have hu := upTo_key s hs
  rcases ho with rfl | rfl | rfl | rfl | rfl
  · exact ⟨below keyOf s L, upTo s L, by simp [spF], by simp [spT], h3, h2, fun i h => by
      have := hb i h; have := hu i h; unfold yesB; rw [if_pos rfl, Bool.eq_iff_iff, decide_eq_true_eq, decide_eq_true_eq]; omega⟩
  · exact ⟨0, below keyOf s L, by simp [spF], by simp [spT], Nat.zero_le _, h1, fun i h => by
      have := hb i h; unfold yesB; rw [if_neg (by omega), if_pos rfl, Bool.eq_iff_iff, decide_eq_true_eq, decide_eq_true_eq]; omega⟩
  · exact ⟨0, upTo s L, by simp [spF], by simp [spT], Nat.zero_le _, h2, fun i h => by
      have := hu i h; unfold yesB; rw [if_neg (by omega), if_neg (by omega), if_pos rfl, Bool.eq_iff_iff, decide_eq_true_eq, decide_eq_true_eq]; omega⟩
  · exact ⟨upTo s L, L.length, by simp [spF], by simp [spT], h2, Nat.le_refl _, fun i h => by
      have := hu i h; unfold yesB; rw [if_neg (by omega), if_neg (by omega), if_neg (by omega), if_pos rfl, Bool.eq_iff_iff, decide_eq_true_eq, decide_eq_true_eq]; omega⟩
  · exact ⟨below keyOf s L, L.length, by simp [spF], by simp [spT], h1, Nat.le_refl _, fun i h => by
      have := hb i h; unfold yesB; rw [if_neg (by omega), if_neg (by omega), if_neg (by omega), if_neg (by omega), Bool.eq_iff_iff, decide_eq_true_eq, decide_eq_true_eq]; omega⟩

set_option maxRecDepth 100000 in
set_option maxHeartbeats 2000000 in
theorem spanlaw_any {W0 W : World} {mb : Nat} {L : List (K M × Int)} (op : Int) (s : K M) (d : Dm W0 mb L W) (p : Option Addr) (n cap : Nat) (hn : L.length = n) (h1000 : n ≤ 1000) (hS : Strs W p (keys L)) :
    Calls Try.prog 15 #[(Value.pointer (some ⟨mb, 0, none⟩)), .slice p n cap, (Value.int .i64 (op)), .string s.1] W fun e w' => e = .returned (.bool true) ∧ Below W.heap.size W w' := by
  by_cases ho : isSp op
  · obtain ⟨F, T, hF, hT, hFT, hTn, hyes⟩ := span_nums op ho s d.srt
    rw [hn] at hTn
    have hsp := span_any op s d ho
    rw [hF, hT] at hsp
    have htest : ∀ i (h : i < L.length) w, Calls Try.prog 26 #[(Value.int .i64 (op)), txt L[i].1, txt s] w fun e w' => e = .returned (.bool (decide (F ≤ i ∧ i < T))) ∧ Below w.heap.size w w' := fun i h w => by
      have h1 := reftest_any op ho L[i].1 s w
      rw [hyes i h] at h1
      exact h1
    have hA : (F < T ∧ spA F T = (F : Int) ∧ spB F T = (T : Int)) ∨ (F = T ∧ spA F T = 0 ∧ spB F T = 0) := by
      unfold spA spB
      by_cases e : F = T
      · right; subst e; simp
      · left
        have e' : ¬ (F : Int) = (T : Int) := by omega
        rw [if_neg e', if_neg e']
        exact ⟨by omega, rfl, rfl⟩
    obtain ⟨A, hAe⟩ : ∃ A, spA F T = A := ⟨_, rfl⟩
    obtain ⟨B, hBe⟩ : ∃ B, spB F T = B := ⟨_, rfl⟩
    rw [hAe, hBe] at hA hsp
    clear hF hT hyes hAe hBe
    have HN := Lib.hid hn
    have HT := Lib.hid htest
    have HA := Lib.hid hA
    clear hn htest hA
    rcases ho with rfl | rfl | rfl | rfl | rfl
    all_goals
      go_enter Try.func15, Try.ntmps15
      go_wp2_with (go_at_call 16; (with_reducible refine hsp.mono ?_); rintro e x1 ⟨rfl, b1⟩)
      go_loopg [12, 13] 1001 (fun gh nv iv w => ∃ i : Nat, i ≤ n ∧ 1001 ≤ i + gh ∧ nv = .int .i64 ((min i T - F : Nat) : Int) ∧ iv = .int .i64 (i : Int) ∧ Below W.heap.size W w)
      case atStart => exact ⟨0, Nat.zero_le _, Nat.le_refl _, by simp, rfl, b1⟩
      case round =>
        obtain ⟨i, hin, hig, rfl, rfl, hb⟩ := hrel
        obtain ⟨cn, hcn⟩ : ∃ cn : Nat, min i T - F = cn := ⟨_, rfl⟩
        have hcnb : cn ≤ 1000 := by omega
        rw [hcn]
        by_cases hlt : i < n
        · have hil : i < L.length := by have := HN.out; omega
          obtain ⟨b, off, rfl, hbW, hc⟩ := (hS.later hb) i (by simpa using hil)
          have ht := fun w => HT.out i hil w
          rw [List.getElem_map] at hc
          obtain ⟨x, hx⟩ : ∃ x : K M, L[i].1 = x := ⟨L[i].1, rfl⟩
          rw [hx] at ht hc
          clear hx
          by_cases hA1 : A ≤ (i : Int)
          · by_cases hB1 : (i : Int) < B
            · have hy : decide (F ≤ i ∧ i < T) = true := decide_eq_true (by have := HA.out; omega)
              simp only [hy] at ht
              have hcs : min (i + 1) T - F = cn + 1 := by have := HA.out; omega
              have HCS := Lib.hid hcs
              clear hcn hy hcs
              go_wp2_with (go_at_call 26; (with_reducible refine (ht _).mono ?_); rintro e x2 ⟨rfl, b2⟩)
              go_roundg (1000 - i)
              case measure => omega
              case rel => exact ⟨i + 1, by omega, by omega, by rw [HCS.out]; simp, by simp, hb.trans (b2.mono hb.size)⟩
            · have hy : decide (F ≤ i ∧ i < T) = false := decide_eq_false (by have := HA.out; omega)
              simp only [hy] at ht
              have hcs : min (i + 1) T - F = cn := by have := HA.out; have := of_decide_eq_false hy; omega
              have HCS := Lib.hid hcs
              clear hcn hy hcs
              go_wp2_with (go_at_call 26; (with_reducible refine (ht _).mono ?_); rintro e x2 ⟨rfl, b2⟩)
              go_roundg (1000 - i)
              case measure => omega
              case rel => exact ⟨i + 1, by omega, by omega, by rw [HCS.out], by simp, hb.trans (b2.mono hb.size)⟩
          · have hy : decide (F ≤ i ∧ i < T) = false := decide_eq_false (by have := HA.out; omega)
            simp only [hy] at ht
            have hcs : min (i + 1) T - F = cn := by have := HA.out; have := of_decide_eq_false hy; omega
            have HCS := Lib.hid hcs
            clear hcn hy hcs
            go_wp2_with (go_at_call 26; (with_reducible refine (ht _).mono ?_); rintro e x2 ⟨rfl, b2⟩)
            go_roundg (1000 - i)
            case measure => omega
            case rel => exact ⟨i + 1, by omega, by omega, by rw [HCS.out], by simp, hb.trans (b2.mono hb.size)⟩
        · obtain rfl : i = n := by omega
          rcases HA.out with ⟨h1, h2, h3⟩ | ⟨h1, h2, h3⟩
          · have hcF : (T : Int) - (F : Int) = (cn : Int) := by omega
            have hpos : (0 : Int) < (cn : Int) := by omega
            have hw : IntKind.i64.wrap (T - F : Int) = (cn : Int) := by rw [IntKind.wrap_i64]; omega
            subst h2 h3
            clear hcn hcF
            go_wp2_with fail
            go_ret
            exact ⟨rfl, hb⟩
          · have hc0 : cn = 0 := by omega
            subst hc0 h2 h3
            clear hcn
            go_wp2_with fail
            go_ret
            exact ⟨rfl, hb⟩
  · have hsp := span_other op s d ho
    have hd : op ≠ 1 ∧ op ≠ 3 ∧ op ≠ 4 ∧ op ≠ 5 ∧ op ≠ 6 := by unfold isSp at ho; omega
    obtain ⟨d1, d3, d4, d5, d6⟩ := hd
    have e1 : (op == 1) = false := by simp [d1]
    have e3 : (op == 3) = false := by simp [d3]
    have e4 : (op == 4) = false := by simp [d4]
    have e5 : (op == 5) = false := by simp [d5]
    have e6 : (op == 6) = false := by simp [d6]
    have n1 : (op != 1) = true := by simp [d1]
    have n3 : (op != 3) = true := by simp [d3]
    have n4 : (op != 4) = true := by simp [d4]
    have n5 : (op != 5) = true := by simp [d5]
    have n6 : (op != 6) = true := by simp [d6]
    clear ho
    go_enter Try.func15, Try.ntmps15
    go_wp2_with (go_at_call 16; (with_reducible refine hsp.mono ?_); rintro e x1 ⟨rfl, b1⟩)
    go_ret
    exact ⟨rfl, b1⟩
end Go.Proofs.Ythkggkndglbdkaa.S
