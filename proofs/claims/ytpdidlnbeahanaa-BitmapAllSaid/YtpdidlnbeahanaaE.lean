/- Select. -/
import Derived.Test.YtpdidlnbeahanaaD
namespace Go.Proofs.Ytpdidlnbeahanaa
open Go Go.RowKit Go.Proofs

set_option maxRecDepth 100000 in
set_option maxHeartbeats 1000000 in
theorem select_any {l : List R2} {v : Value} {W : World} (hl : Nrm l) (hv : Mv W v l) (k : Int) (hi63 : -9223372036854775808 ≤ k ∧ k ≤ 9223372036854775807) : Calls Try.prog 17 #[.agg #[v], (Value.int .i64 (k))] W fun e w' => e = .returned (Value.int .i64 (sel (els l) k)) ∧ Below W.heap.size W w' := by
  obtain ⟨hB, hi⟩ := box2 W v k
  have hc := last_any (D := W.heap.size + 2) (W0 := (W.alloc (.cells #[v] 27)).alloc (.cells #[(Value.int .i64 (k))] 3)) (W := (W.alloc (.cells #[v] 27)).alloc (.cells #[(Value.int .i64 (k))] 3)) (fv := .func (.func 37) #[] #[(Value.pointer (some ⟨W.heap.size + 1, 0, none⟩))]) (q := fun j => decide (((els (l.take j)).length : Int) ≤ k)) hl (hv.later hB) (Below.refl _ _) (by simp)
    ⟨37, _, rfl, by intro a w; rfl, fun w j hj hb => select1_any l[j].1 l[j].2 ((els (l.take j)).length : Int) k (W.heap.size + 1) w (nd_cell ((hb.block _ (by omega)).trans hi) 0)⟩ (fun j j' hjk hk h => by
      have := below_mono l hjk
      have h : ((els (l.take j')).length : Int) ≤ k := of_decide_eq_true h
      exact decide_eq_true (by omega))
  have hs := fun m (hm : m ≤ l.length) (hq : ∀ j, j < l.length → (j < m ↔ decide (((els (l.take j)).length : Int) ≤ k) = true)) => And.intro (select_spec (k := k) hl hm (fun j hj => by
      have := hq j hj
      rw [decide_eq_true_eq] at this
      exact this)) (lastR_bd hl hm)
  have hx : ∀ {x1 : World}, Below ((W.alloc (.cells #[v] 27)).alloc (.cells #[(Value.int .i64 (k))] 3)).heap.size ((W.alloc (.cells #[v] 27)).alloc (.cells #[(Value.int .i64 (k))] 3)) x1 → x1.cell? ⟨W.heap.size + 1, 0, none⟩ = some (Value.int .i64 (k)) ∧ W.heap.size + 1 < x1.heap.size ∧ Below W.heap.size W x1 := fun hb => ⟨nd_cell (heap_below hb hi) 0, lt_of_heap (heap_below hb hi), below_on hB hb⟩
  obtain ⟨p, cap, rfl, _, _⟩ := hv.slice
  clear hv hi hB hl
  generalize sel (els l) k = z at hs ⊢
  go_enter Try.func17, Try.ntmps17
  go_upto_region 1 with fail
  go_upto_region 2 with (first
    | (go_at_call 34; (with_reducible refine hc.mono ?_); rintro e x1 ⟨m, hm, rfl, hq, hb⟩; have hs := hs m hm hq; clear hq hc; generalize lastR l m = r at hs ⊢; obtain ⟨hi, hlt, hbx⟩ := hx hb; clear hx hb; obtain ⟨f, t, c⟩ := r; obtain ⟨hs, ⟨hb0, hb1, hb2, hb3, hb4⟩⟩ := hs; have HS := Lib.hid hs; clear hs))
  have hb0 : 0 ≤ f := hb0
  have hb1 : f ≤ t := hb1
  have hb2 : t ≤ 65536 := hb2
  have hb3 : 0 ≤ c := hb3
  have hb4 : c ≤ 65536 := hb4
  have HS : Hid ((if k < c ∨ t - f ≤ k - c then -1 else f + k - c) = z) := HS
  by_cases h : k < c
  · clear hi63
    go_wp2_with fail
    go_ret
    exact ⟨ret_int (by have := HS.out; rw [if_pos (.inl h)] at this; exact this), hbx.alloc hbx.size _⟩
  · have e1 : wrap64 (k - c) = k - c := Go.IntWalk.wrap64_in _ (by omega)
    clear hi63
    by_cases h2 : t - f ≤ k - c
    · go_wp2_with fail
      go_ret
      exact ⟨ret_int (by have := HS.out; rw [if_pos (.inr h2)] at this; exact this), hbx.alloc hbx.size _⟩
    · have hk : k ≤ 200000 := by omega
      have hk0 : 0 ≤ k := by omega
      go_wp2_with fail
      go_ret
      exact ⟨ret_int (by have := HS.out; rw [if_neg (by omega)] at this; exact this), hbx.alloc hbx.size _⟩
end Go.Proofs.Ytpdidlnbeahanaa
