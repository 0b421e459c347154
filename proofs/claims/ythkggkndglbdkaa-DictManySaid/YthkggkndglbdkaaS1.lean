import Derived.Test.YthkggkndglbdkaaR
import Derived.Deep.LoopGhost
namespace Go.Proofs.Ythkggkndglbdkaa.S
open Go Go.RowKit Go.Shelf Go.Proofs Go.Proofs.Ythkggkndglbdkaa
variable {M : Nat}

/-- One word, so many times. -/
def Ls (s : K M) (i : Nat) : List (K M × Int) := if i = 0 then [] else [(s, (i : Int))]
theorem Ls_has (s : K M) (i : Nat) : has s (Ls s i) = decide (0 < i) := by
  unfold Ls has
  by_cases h : i = 0
  · simp [h, getL]
  · simp [h, getL]; omega
theorem Ls_tm (s : K M) (i : Nat) : tm s (Ls s i) = (i : Int) := by
  unfold Ls tm
  by_cases h : i = 0
  · simp [h, getL]
  · simp [h, getL]
theorem Ls_ins (s : K M) (i : Nat) (v : Int) : insL keyOf s v (Ls s i) = [(s, v)] := by
  unfold Ls
  by_cases h : i = 0
  · simp [h, insL]
  · simp [h, insL]
theorem Ls_add (s : K M) (i : Nat) : insL keyOf s (tm s (Ls s i) + 1) (Ls s i) = Ls s (i + 1) := by
  rw [Ls_ins, Ls_tm]
  unfold Ls
  simp
theorem Ls_take (s : K M) (i : Nat) : takeL s (Ls s i) = Ls s (i - 1) := by
  unfold takeL
  rw [Ls_tm]
  by_cases h : 1 < (i : Int)
  · rw [if_pos h, Ls_ins]
    unfold Ls
    rw [if_neg (by omega)]
    congr 2
    omega
  · rw [if_neg h]
    have hz : Ls s (i - 1) = [] := by unfold Ls; rw [if_pos (by omega)]
    rw [hz]
    unfold Ls
    by_cases h0 : i = 0
    · rw [if_pos h0]; rfl
    · rw [if_neg h0, delL, if_pos rfl]
theorem Ls_len (s : K M) (i : Nat) : (Ls s i).length = if i = 0 then 0 else 1 := by
  unfold Ls; split <;> rfl

set_option maxRecDepth 100000 in
set_option maxHeartbeats 1000000 in
theorem many_walk (s : ByteArray) (n k : Int) (W : World) : Calls Try.prog 6 #[.string s, (Value.int .i64 (n)), (Value.int .i64 (k))] W fun e W' => e = .returned (.bool true) ∧ Below W.heap.size W W' := by
  have hbeg := begun_any W
  by_cases hc : 1 ≤ n ∧ n ≤ 20 ∧ 0 ≤ k ∧ k ≤ 25
  · obtain ⟨n1, n2, k1, k2⟩ := hc
    obtain ⟨nn, rfl⟩ := Int.eq_ofNat_of_zero_le (show 0 ≤ n by omega)
    obtain ⟨kn, rfl⟩ := Int.eq_ofNat_of_zero_le k1
    have q1 : decide ((nn : Int) < 1) = false := decide_eq_false (by omega)
    have q2 : decide ((20 : Int) < (nn : Int)) = false := decide_eq_false (by omega)
    have q3 : decide ((kn : Int) < 0) = false := decide_eq_false (by omega)
    have q4 : decide ((25 : Int) < (kn : Int)) = false := decide_eq_false (by omega)
    obtain ⟨sk, hsk⟩ : ∃ sk : K s.size, sk.1 = s := ⟨⟨s, Nat.le_refl _⟩, rfl⟩
    have HSK := Lib.hid hsk
    have hadd := fun (i : Nat) (W0 y : World) (mb : Nat) (hi : i ≤ 30) (h : Dm W0 mb (Ls sk i) y) => add_any sk h (by rw [Ls_len]; split <;> omega) (by rw [Ls_tm]; omega)
    have htake := fun (i : Nat) (W0 y : World) (mb : Nat) (h : Dm W0 mb (Ls sk i) y) => take_any sk h (by rw [Ls_len]; split <;> omega)
    have hrank := fun (i : Nat) (W0 y : World) (mb : Nat) (h : Dm W0 mb (Ls sk i) y) => drank_any sk h
    have hlen := fun (i : Nat) (W0 y : World) (mb : Nat) (h : Dm W0 mb (Ls sk i) y) => dlen_any h
    simp only [Ls_add, Ls_has, hsk] at hadd
    simp only [Ls_take, Ls_has, hsk] at htake
    simp only [Ls_has, hsk] at hrank
    simp only [Ls_len] at hlen
    clear hsk
    go_enter Try.func6, Try.ntmps6
    go_wp2_with (go_at_call 7; (with_reducible refine hbeg.mono ?_); rintro e x0 ⟨rfl, b0⟩; have z := zero_dm s.size x0; have bz := below_alloc x0 Z31; clear hbeg)
    obtain ⟨mb, hmb⟩ : ∃ mb, x0.heap.size = mb := ⟨_, rfl⟩
    rw [hmb] at z bz ⊢
    have hbm : x0.heap.size ≤ mb := by omega
    have hWm : W.heap.size ≤ mb := by have := b0.size; omega
    have HZ := Lib.hid (And.intro z (And.intro bz b0))
    clear z bz b0 hmb
    go_loopg [9] 26 (fun g iv w => ∃ i : Nat, i ≤ nn ∧ 26 ≤ i + g ∧ iv = .int .i64 (i : Int) ∧ Dm x0 mb (Ls sk i) w ∧ Chg (fun b => b = mb) x0 w)
    case atStart => exact ⟨0, Nat.zero_le _, by omega, rfl, HZ.out.1, Chg.of_below' HZ.out.2.1 (fun b hb hh => by omega)⟩
    case round =>
      obtain ⟨i, hin, hig, rfl, d, cc⟩ := hrel
      by_cases hlt : i < nn
      · have ha := hadd i _ _ _ (by omega) d
        clear hadd htake hrank hlen
        have e1 : decide ((i : Int) < (nn : Int)) = true := decide_eq_true (by omega)
        obtain ⟨bv, hbv⟩ : ∃ bv, decide (0 < i) = bv := ⟨_, rfl⟩
        have e2 : ((i : Int) == 0) = !bv := by rw [← hbv, Bool.eq_iff_iff]; simp
        rw [hbv] at ha
        clear hbv
        go_wp2_with (go_at_call 9; (with_reducible refine ha.mono ?_); rintro e x1 ⟨rfl, d1, c1⟩)
        go_roundg (25 - i)
        case measure => omega
        case rel => exact ⟨i + 1, by omega, by omega, by simp, d1, chg2 cc c1⟩
      · obtain rfl : i = nn := by omega
        have e1 : decide ((i : Int) < (i : Int)) = false := decide_eq_false (by omega)
        clear hadd
        have D0 := Lib.hid d
        go_wp2_with fail
        go_loopg [10] 26 (fun g jv w => ∃ j : Nat, j ≤ kn ∧ 26 ≤ j + g ∧ jv = .int .i64 (j : Int) ∧ Dm x0 mb (Ls sk (i - j)) w ∧ Chg (fun b => b = mb) x0 w)
        case atStart => exact ⟨0, Nat.zero_le _, by omega, rfl, D0.out, cc⟩
        case round =>
          clear D0 d cc
          obtain ⟨j, hjk, hjg, rfl, d, cc⟩ := hrel
          by_cases hlt : j < kn
          · have ha := htake (i - j) _ _ _ d
            clear htake hrank hlen
            have e1 : decide ((j : Int) < (kn : Int)) = true := decide_eq_true (by omega)
            by_cases hji : j < i
            · have e2 : decide (0 < i - j) = true := decide_eq_true (by omega)
              have e3 : (j : Int) < (i : Int) := by omega
              have e4 : decide ((j : Int) < (i : Int)) = true := decide_eq_true e3
              rw [e2] at ha
              clear e2 
              go_wp2_with (go_at_call 10; (with_reducible refine ha.mono ?_); rintro e x1 ⟨rfl, d1, c1⟩)
              go_roundg (25 - j)
              case measure => omega
              case rel => exact ⟨j + 1, by omega, by omega, by simp, by rw [Nat.sub_sub] at d1; exact d1, chg2 cc c1⟩
            · have e2 : decide (0 < i - j) = false := decide_eq_false (by omega)
              have e3 : ¬ (j : Int) < (i : Int) := by omega
              have e4 : decide ((j : Int) < (i : Int)) = false := decide_eq_false e3
              rw [e2] at ha
              clear e2 
              go_wp2_with (go_at_call 10; (with_reducible refine ha.mono ?_); rintro e x1 ⟨rfl, d1, c1⟩)
              go_roundg (25 - j)
              case measure => omega
              case rel => exact ⟨j + 1, by omega, by omega, by simp, by rw [Nat.sub_sub] at d1; exact d1, chg2 cc c1⟩
          · obtain rfl : j = kn := by omega
            have hr := hrank (i - j) _ _ _ d
            have hl := fun y (hy : Below wr.heap.size wr y) => hlen (i - j) _ _ _ (d.later hy)
            have HB := Lib.hid (HZ.out.2.2.trans (chg_below cc HZ.out.2.2.size hWm))
            clear hrank hlen htake
            generalize rankOf sk (Ls sk (i - j)) = rv at hr
            by_cases hin : j < i
            · have e1 : decide ((j : Int) < (i : Int)) = true := decide_eq_true (by omega)
              have e2 : decide (0 < i - j) = true := decide_eq_true (by omega)
              have e3 : ¬ i - j = 0 := by omega
              rw [e2] at hr
              simp only [e3, if_false] at hl
              clear e2 e3
              go_wp2_with (first
                | (go_at_call 13; (with_reducible refine hr.mono ?_); rintro e x1 ⟨rfl, b1⟩)
                | (go_at_call 12; (with_reducible refine (hl _ b1).mono ?_); rintro e x2 ⟨rfl, hx⟩; subst x2))
              go_ret
              exact ⟨rfl, HB.out.trans (b1.mono (HB.out.size))⟩
            · have e1 : decide ((j : Int) < (i : Int)) = false := decide_eq_false (by omega)
              have e2 : decide (0 < i - j) = false := decide_eq_false (by omega)
              have e3 : i - j = 0 := by omega
              rw [e2] at hr
              simp only [e3, if_true] at hl
              clear e2 e3
              go_wp2_with (first
                | (go_at_call 13; (with_reducible refine hr.mono ?_); rintro e x1 ⟨rfl, b1⟩)
                | (go_at_call 12; (with_reducible refine (hl _ b1).mono ?_); rintro e x2 ⟨rfl, hx⟩; subst x2))
              go_ret
              exact ⟨rfl, HB.out.trans (b1.mono (HB.out.size))⟩
  · by_cases q1 : n < 1
    · go_enter Try.func6, Try.ntmps6
      go_wp2_with (go_at_call 7; (with_reducible refine hbeg.mono ?_); rintro e x0 ⟨rfl, b0⟩)
      go_ret
      exact ⟨rfl, b0⟩
    · by_cases q2 : 20 < n
      · go_enter Try.func6, Try.ntmps6
        go_wp2_with (go_at_call 7; (with_reducible refine hbeg.mono ?_); rintro e x0 ⟨rfl, b0⟩)
        go_ret
        exact ⟨rfl, b0⟩
      · by_cases q3 : k < 0
        · go_enter Try.func6, Try.ntmps6
          go_wp2_with (go_at_call 7; (with_reducible refine hbeg.mono ?_); rintro e x0 ⟨rfl, b0⟩)
          go_ret
          exact ⟨rfl, b0⟩
        · have q4 : 25 < k := by omega
          go_enter Try.func6, Try.ntmps6
          go_wp2_with (go_at_call 7; (with_reducible refine hbeg.mono ?_); rintro e x0 ⟨rfl, b0⟩)
          go_ret
          exact ⟨rfl, b0⟩
end Go.Proofs.Ythkggkndglbdkaa.S
