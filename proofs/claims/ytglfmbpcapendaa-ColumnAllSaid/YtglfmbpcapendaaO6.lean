/- Set. -/
import Derived.Test.YtglfmbpcapendaaO5
namespace Go.Proofs.Ytglfmbpcapendaa.S
open Go Go.RowKit Go.Shelf Go.Proofs Go.Proofs.Ytglfmbpcapendaa
section
variable {cb : Nat} {kind n : Int} {v : Value} {L : List (K 12 × Int)} {W0 W W' : World}

set_option maxRecDepth 100000 in
theorem set_out {m : Nat} {xs : List Value} {base : Nat} (h : Cm cb kind v n L W0 W) (hr : HRow W base 28 3 v m xs) (i : Int) (hi : i < 0 ∨ (m : Int) ≤ i) (k n1 : Int) (s : ByteArray) : Calls Try.prog 11 #[(Value.pointer (some ⟨cb, 0, none⟩)), (Value.int .i64 (i)), (Value.agg #[Value.int .i64 (k), Value.int .i64 (n1), Value.string (s)])] W fun e w' => e = .returned (.bool false) ∧ Below W.heap.size W w' := by
  have ha := at_out (h.later (below_alloc W (.cells #[.int .i64 k, .int .i64 n1, .string s] 28))) (hr.later (below_alloc W (.cells #[.int .i64 k, .int .i64 n1, .string s] 28))) i hi
  clear hi h hr
  go_enter Try.func11, Try.ntmps11
  go_wp2_with (go_at_call 12; (with_reducible refine ha.mono ?_); rintro e x1 ⟨rfl, b1⟩)
  go_ret
  exact ⟨rfl, below_on (below_on (below_alloc W _) b1) (below_alloc _ _)⟩
set_option maxRecDepth 100000 in
set_option maxHeartbeats 1000000 in
theorem set_no {l : List T3} {base : Nat} (h : Cm cb kind v n L W0 W) (hr : HRow W base 28 3 v l.length (cells3 l)) (i : Nat) (hi : i < l.length) (k n1 : Int) (s : ByteArray) (hs : s.size ≤ maxLen) (hc : inC kind (k, n1, s) = false) : Calls Try.prog 11 #[(Value.pointer (some ⟨cb, 0, none⟩)), (Value.int .i64 ((i : Int))), (Value.agg #[Value.int .i64 (k), Value.int .i64 (n1), Value.string (s)])] W fun e w' => e = .returned (.bool false) ∧ Below W.heap.size W w' := by
  have ha := at_in (h.later (below_alloc W (.cells #[.int .i64 k, .int .i64 n1, .string s] 28))) (hr.later (below_alloc W (.cells #[.int .i64 k, .int .i64 n1, .string s] 28))) i hi
  have ht := fun y (hy : Below W.heap.size W y) => takes_any (h.later hy) k n1 s hs
  rw [hc] at ht
  generalize l[i] = x at ha
  have hnew := heap_alloc_new W (.cells #[.int .i64 k, .int .i64 n1, .string s] 28)
  obtain ⟨B, hB⟩ : ∃ B, W.heap.size = B := ⟨_, rfl⟩
  have hba := below_alloc W (.cells #[.int .i64 k, .int .i64 n1, .string s] 28)
  rw [hB] at hnew hba ht
  clear hi h hr
  go_enter Try.func11, Try.ntmps11
  go_wp2_with (first
    | (go_at_call 12; (with_reducible refine ha.mono ?_); rintro e x1 ⟨rfl, b1⟩; have bx : x1.heap[B]? = some (.cells #[.int .i64 k, .int .i64 n1, .string s] 28) := (b1.block B (by simp; omega)).trans hnew; have b0 := nd_cell bx 0; have b1' := nd_cell bx 1; have b2 := nd_cell bx 2; have hlt := lt_of_heap bx; have hb1 : Below B W x1 := hba.trans (b1.mono (by rw [← hB]; simp)))
    | (go_at_call 19; (with_reducible refine (ht _ (hb1.alloc (by omega) _)).mono ?_); rintro e x2 ⟨rfl, b2⟩))
  go_ret
  exact ⟨rfl, by rw [hB]; exact (hb1.alloc (by omega) _).trans (b2.mono (by simp; omega))⟩

def nDn (n : Int) (x : T3) : Int := if x.1 = 0 then n - 1 else n
def lDn (L : List (K 12 × Int)) (x : T3) : List (K 12 × Int) := if x.1 = 2 then takeL (wd x.2.2) L else L
theorem uncount_any (h : Cm cb kind v n L W0 W) (x : T3) (hs : x.1 = 2 → x.2.2.size ≤ 12) (hn : n ≤ 1000000) (hn1 : x.1 = 0 → 1 ≤ n) (hl : L.length + 1 ≤ 999999) :
    Calls Try.prog 21 #[(Value.pointer (some ⟨cb, 0, none⟩)), (Value.agg #[Value.int .i64 (x.1), Value.int .i64 (x.2.1), Value.string (x.2.2)])] W fun e w' => e = .returned (.tuple #[]) ∧ Cm cb kind v (nDn n x) (lDn L x) W0 w' ∧ Chg (fun b => b = cb) W w' := by
  obtain ⟨k, n1, s⟩ := x
  unfold nDn lDn
  by_cases h0 : k = 0
  · subst h0
    exact uncount_null h n1 s ⟨hn1 rfl, hn⟩
  · by_cases h2 : k = 2
    · subst h2
      exact uncount_text h n1 s (hs rfl) hl
    · simp only [h0, h2, if_false]
      exact (uncount_other h n1 s k h0 h2).mono (fun e w' ⟨he, hb⟩ => ⟨he, h.later hb, Chg.of_below hb⟩)
theorem tm_lDn (s : K 12) (x : T3) (hs : Srt keyOf L) (hp : ∀ s, 0 ≤ tm s L) : tm s (lDn L x) ≤ tm s L := by
  unfold lDn
  split
  · rw [tm_take _ _ hs (hp _)]
    split
    · rename_i e
      have h1 := hp (wd x.2.2)
      rw [e] at h1 ⊢
      split <;> omega
    · omega
  · omega
theorem len_lDn (x : T3) (hs : Srt keyOf L) : (lDn L x).length ≤ L.length := by
  unfold lDn
  split
  · exact take_len_le _ hs
  · omega
end
end Go.Proofs.Ytglfmbpcapendaa.S
