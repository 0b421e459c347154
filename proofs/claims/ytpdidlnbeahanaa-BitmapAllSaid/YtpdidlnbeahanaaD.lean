/- Count, Has, Rank, Select. -/
import Derived.Test.YtpdidlnbeahanaaC
namespace Go.Proofs.Ytpdidlnbeahanaa
open Go Go.RowKit Go.Proofs

theorem lastR_bd {l : List R2} (h : Nrm l) {m : Nat} (hm : m ≤ l.length) : 0 ≤ (lastR l m).1 ∧ (lastR l m).1 ≤ (lastR l m).2.1 ∧ (lastR l m).2.1 ≤ 65536 ∧ 0 ≤ (lastR l m).2.2 ∧ (lastR l m).2.2 ≤ 65536 := by
  cases m with
  | zero => show (0 : Int) ≤ 0 ∧ (0 : Int) ≤ 0 ∧ (0 : Int) ≤ 65536 ∧ (0 : Int) ≤ 0 ∧ (0 : Int) ≤ 65536; omega
  | succ m =>
    rw [lastR_succ l m (by omega)]
    have h1 := h.2 l[m] (List.getElem_mem _)
    have h2 : Nrm (l.take m) := by
      have : Nrm (l.take m ++ l.drop m) := by rw [List.take_append_drop]; exact h
      exact this.left
    have h3 := els_len h2
    show 0 ≤ l[m].1 ∧ l[m].1 ≤ l[m].2 ∧ l[m].2 ≤ 65536 ∧ (0 : Int) ≤ ((els (l.take m)).length : Int) ∧ ((els (l.take m)).length : Int) ≤ 65536
    omega
theorem heap_below {W w : World} {b : Nat} {o : Obj} (hb : Below W.heap.size W w) (h : W.heap[b]? = some o) : w.heap[b]? = some o := (hb.block _ (lt_of_heap h)).trans h
theorem ret_bool {a b : Bool} (h : a = b) : Ending.returned (.bool a) = .returned (.bool b) := by rw [h]
theorem ret_int {a b : Int} (h : a = b) : Ending.returned (Value.int .i64 (a)) = .returned (Value.int .i64 (b)) := by rw [h]
theorem dec_eq {p : Prop} [Decidable p] {b : Bool} (h : p ↔ b = true) : decide p = b := by
  rw [Bool.eq_iff_iff, decide_eq_true_eq]
  exact h
/-- Three cells written into a block of three. -/
theorem set3 {x : World} {b : Nat} {a0 a1 a2 : Value} {t : TypeId} (h : x.heap[b]? = some (.cells #[a0, a1, a2] t)) (a c d : Value) :
    (((x.setCell ⟨b, 0, none⟩ a).setCell ⟨b, 1, none⟩ c).setCell ⟨b, 2, none⟩ d).heap[b]? = some (.cells #[a, c, d] t) := by
  rw [heap_setCell_same _ b 2 #[a, c, a2] t d (heap_setCell_same _ b 1 #[a, a1, a2] t c (heap_setCell_same _ b 0 #[a0, a1, a2] t a h))]
  rfl

set_option maxRecDepth 100000 in
set_option maxHeartbeats 1000000 in
theorem count_any {l : List R2} {v : Value} {W : World} (hl : Nrm l) (hv : Mv W v l) : Calls Try.prog 28 #[.agg #[v]] W fun e w' => e = .returned (Value.int .i64 (((els l).length : Int))) ∧ Below W.heap.size W w' := by
  have hs := count_spec hl
  have hbd := lastR_bd hl (Nat.le_refl _)
  have hB := below_alloc W (.cells #[v] 27)
  have hc := last_any (D := 0) (W0 := W.alloc (.cells #[v] 27)) (W := W.alloc (.cells #[v] 27)) (fv := .func (.func 39) #[] #[]) (q := fun _ => true) hl (hv.later hB) (Below.refl 0 _) (Nat.zero_le _)
    ⟨39, #[], rfl, by intro a w; rfl, fun w j hj _ => count1_any _ _ _ w⟩ (fun _ _ _ _ _ => rfl)
  obtain ⟨p, cap, rfl, _, _⟩ := hv.slice
  clear hv hl
  generalize ((els l).length : Int) = z at hs ⊢
  go_enter Try.func28, Try.ntmps28
  go_upto_region 1 with fail
  go_wp2_with (first
    | (go_at_call 34; (with_reducible refine hc.mono ?_); rintro e x1 ⟨m, hm, rfl, hq, hb⟩; have hm : m = l.length := (Nat.lt_or_ge m l.length).elim (fun h => absurd ((hq m h).2 rfl) (Nat.lt_irrefl m)) (fun h => by omega); subst hm; clear hq hc; generalize lastR l l.length = r at hs hbd ⊢; have HS := Lib.hid hs; clear hs))
  go_ret
  exact ⟨by rw [HS.out]; rfl, (below_on hB hb).alloc (by have := (below_on hB hb).size; omega) _⟩

/-- A Map boxed, and a number. -/
theorem box2 (W : World) (v : Value) (i : Int) : Below W.heap.size W ((W.alloc (.cells #[v] 27)).alloc (.cells #[(Value.int .i64 (i))] 3)) ∧ ((W.alloc (.cells #[v] 27)).alloc (.cells #[(Value.int .i64 (i))] 3)).heap[W.heap.size + 1]? = some (.cells #[(Value.int .i64 (i))] 3) := by
  refine ⟨(below_alloc W _).alloc (by simp) _, ?_⟩
  have := heap_alloc_new (W.alloc (.cells #[v] 27)) (.cells #[(Value.int .i64 (i))] 3)
  rwa [World.size_alloc] at this
set_option maxRecDepth 100000 in
set_option maxHeartbeats 1000000 in
theorem has_any {l : List R2} {v : Value} {W : World} (hl : Nrm l) (hv : Mv W v l) (i : Int) (b : Bool) (hbi : b = true ↔ mem l i) : Calls Try.prog 14 #[.agg #[v], (Value.int .i64 (i))] W fun e w' => e = .returned (.bool b) ∧ Below W.heap.size W w' := by
  obtain ⟨hB, hi⟩ := box2 W v i
  have hc := last_any (D := W.heap.size + 2) (W0 := (W.alloc (.cells #[v] 27)).alloc (.cells #[(Value.int .i64 (i))] 3)) (W := (W.alloc (.cells #[v] 27)).alloc (.cells #[(Value.int .i64 (i))] 3)) (fv := .func (.func 35) #[] #[(Value.pointer (some ⟨W.heap.size + 1, 0, none⟩))]) (q := fun j => decide ((l.getD j (0, 0)).1 ≤ i)) hl (hv.later hB) (Below.refl _ _) (by simp)
    ⟨35, _, rfl, by intro a w; rfl, fun w j hj hb => by
      have := has1_any l[j].1 l[j].2 ((els (l.take j)).length : Int) i (W.heap.size + 1) w (nd_cell ((hb.block _ (by omega)).trans hi) 0)
      show Calls Try.prog 35 _ w fun e w' => e = .returned (.bool (decide ((l.getD j (0, 0)).1 ≤ i))) ∧ _
      rw [List.getD_eq_getElem?_getD, List.getElem?_eq_getElem hj]
      exact this⟩ (fun j k hjk hk h => by
      have h : decide ((l.getD k (0, 0)).1 ≤ i) = true := h
      show decide ((l.getD j (0, 0)).1 ≤ i) = true
      rw [List.getD_eq_getElem?_getD, List.getElem?_eq_getElem hk] at h
      rw [List.getD_eq_getElem?_getD, List.getElem?_eq_getElem (by omega)]
      have := from_mono hl hjk hk
      have h : l[k].1 ≤ i := of_decide_eq_true h
      exact decide_eq_true (by show l[j].1 ≤ i; omega))
  have hs := fun m (hm : m ≤ l.length) (hq : ∀ j, j < l.length → (j < m ↔ decide ((l.getD j (0, 0)).1 ≤ i) = true)) => has_spec (i := i) hl hm (fun j hj => by
      have := hq j hj
      rw [List.getD_eq_getElem?_getD, List.getElem?_eq_getElem hj, decide_eq_true_eq] at this
      exact this)
  have hx : ∀ {x1 : World}, Below ((W.alloc (.cells #[v] 27)).alloc (.cells #[(Value.int .i64 (i))] 3)).heap.size ((W.alloc (.cells #[v] 27)).alloc (.cells #[(Value.int .i64 (i))] 3)) x1 → x1.cell? ⟨W.heap.size + 1, 0, none⟩ = some (Value.int .i64 (i)) ∧ W.heap.size + 1 < x1.heap.size ∧ Below W.heap.size W x1 := fun hb => ⟨nd_cell (heap_below hb hi) 0, lt_of_heap (heap_below hb hi), below_on hB hb⟩
  obtain ⟨p, cap, rfl, _, _⟩ := hv.slice
  clear hv hi hB hl
  go_enter Try.func14, Try.ntmps14
  go_upto_region 1 with fail
  go_wp2_with (first
    | (go_at_call 34; (with_reducible refine hc.mono ?_); rintro e x1 ⟨m, hm, rfl, hq, hb⟩; have hs := hs m hm hq; clear hq hc; generalize lastR l m = r at hs ⊢; obtain ⟨hi, hlt, hbx⟩ := hx hb; clear hx hb; rw [← hbi] at hs; have HS := Lib.hid hs; clear hs hbi))
  · go_ret
    exact ⟨ret_bool (dec_eq (by rw [← HS.out]; exact ⟨fun h => ⟨by first | assumption | simpa using ‹_›, h⟩, fun h => h.2⟩)), hbx.alloc hbx.size _⟩
  · go_ret
    refine ⟨ret_bool ?_, hbx.alloc hbx.size _⟩
    cases b with
    | false => rfl
    | true => have := (HS.out.2 rfl).1; omega
set_option maxRecDepth 100000 in
set_option maxHeartbeats 1000000 in
theorem rank_any {l : List R2} {v : Value} {W : World} (hl : Nrm l) (hv : Mv W v l) (i : Int) (hi63 : -9223372036854775808 ≤ i ∧ i ≤ 9223372036854775807) : Calls Try.prog 16 #[.agg #[v], (Value.int .i64 (i))] W fun e w' => e = .returned (Value.int .i64 ((under (els l) i : Int))) ∧ Below W.heap.size W w' := by
  obtain ⟨hB, hi⟩ := box2 W v i
  have hc := last_any (D := W.heap.size + 2) (W0 := (W.alloc (.cells #[v] 27)).alloc (.cells #[(Value.int .i64 (i))] 3)) (W := (W.alloc (.cells #[v] 27)).alloc (.cells #[(Value.int .i64 (i))] 3)) (fv := .func (.func 36) #[] #[(Value.pointer (some ⟨W.heap.size + 1, 0, none⟩))]) (q := fun j => decide ((l.getD j (0, 0)).1 < i)) hl (hv.later hB) (Below.refl _ _) (by simp)
    ⟨36, _, rfl, by intro a w; rfl, fun w j hj hb => by
      have := rank1_any l[j].1 l[j].2 ((els (l.take j)).length : Int) i (W.heap.size + 1) w (nd_cell ((hb.block _ (by omega)).trans hi) 0)
      show Calls Try.prog 36 _ w fun e w' => e = .returned (.bool (decide ((l.getD j (0, 0)).1 < i))) ∧ _
      rw [List.getD_eq_getElem?_getD, List.getElem?_eq_getElem hj]
      exact this⟩ (fun j k hjk hk h => by
      have h : decide ((l.getD k (0, 0)).1 < i) = true := h
      show decide ((l.getD j (0, 0)).1 < i) = true
      rw [List.getD_eq_getElem?_getD, List.getElem?_eq_getElem hk] at h
      rw [List.getD_eq_getElem?_getD, List.getElem?_eq_getElem (by omega)]
      have := from_mono hl hjk hk
      have h : l[k].1 < i := of_decide_eq_true h
      exact decide_eq_true (by show l[j].1 < i; omega))
  have hs := fun m (hm : m ≤ l.length) (hq : ∀ j, j < l.length → (j < m ↔ decide ((l.getD j (0, 0)).1 < i) = true)) => And.intro (rank_spec (i := i) hl hm (fun j hj => by
      have := hq j hj
      rw [List.getD_eq_getElem?_getD, List.getElem?_eq_getElem hj, decide_eq_true_eq] at this
      exact this)) (And.intro (lastR_bd hl hm) (show ((lastR l m).1 ≤ i ∨ ((lastR l m).1 = 0 ∧ (lastR l m).2.1 = 0)) from by
      cases m with
      | zero => exact .inr ⟨rfl, rfl⟩
      | succ m =>
        left
        have := (hq m (by omega)).1 (by omega)
        rw [List.getD_eq_getElem?_getD, List.getElem?_eq_getElem (by omega)] at this
        have h : l[m].1 < i := of_decide_eq_true this
        rw [lastR_succ l m (by omega)]
        exact Int.le_of_lt h))
  have hx : ∀ {x1 : World}, Below ((W.alloc (.cells #[v] 27)).alloc (.cells #[(Value.int .i64 (i))] 3)).heap.size ((W.alloc (.cells #[v] 27)).alloc (.cells #[(Value.int .i64 (i))] 3)) x1 → x1.cell? ⟨W.heap.size + 1, 0, none⟩ = some (Value.int .i64 (i)) ∧ W.heap.size + 1 < x1.heap.size ∧ Below W.heap.size W x1 := fun hb => ⟨nd_cell (heap_below hb hi) 0, lt_of_heap (heap_below hb hi), below_on hB hb⟩
  obtain ⟨p, cap, rfl, _, _⟩ := hv.slice
  clear hv hi hB hl
  generalize under (els l) i = u at hs ⊢
  go_enter Try.func16, Try.ntmps16
  go_upto_region 1 with fail
  go_upto_region 2 with (first
    | (go_at_call 34; (with_reducible refine hc.mono ?_); rintro e x1 ⟨m, hm, rfl, hq, hb⟩; have hs := hs m hm hq; clear hq hc; generalize lastR l m = r at hs ⊢; obtain ⟨hi, hlt, hbx⟩ := hx hb; clear hx hb; obtain ⟨f, t, c⟩ := r; obtain ⟨hs, ⟨hb0, hb1, hb2, hb3, hb4⟩, ho⟩ := hs; have HS := Lib.hid hs; clear hs))
  have hb0 : 0 ≤ f := hb0
  have hb1 : f ≤ t := hb1
  have hb2 : t ≤ 65536 := hb2
  have hb3 : 0 ≤ c := hb3
  have hb4 : c ≤ 65536 := hb4
  have ho : f ≤ i ∨ (f = 0 ∧ t = 0) := ho
  have HS : Hid (c + max (min i t - f) 0 = (u : Int)) := HS
  have e1 : wrap64 (t - f) = t - f := Go.IntWalk.wrap64_in _ (by omega)
  have e2 : wrap64 (i - f) = i - f := Go.IntWalk.wrap64_in _ (by omega)
  have h1 : 0 ≤ t - f := by omega
  clear hi63
  rcases Int.lt_or_le t i with h | h
  · clear ho e2
    go_wp2_with fail
    go_ret
    exact ⟨ret_int (by have := HS.out; omega), hbx.alloc hbx.size _⟩
  · by_cases hf : f ≤ i
    · have h2 : 0 ≤ i - f := by omega
      have h3 : ¬ t < i := by omega
      clear ho
      go_wp2_with fail
      go_ret
      exact ⟨ret_int (by have := HS.out; omega), hbx.alloc hbx.size _⟩
    · obtain ⟨rfl, rfl⟩ := ho.resolve_left hf
      have h3 : ¬ 0 < i := by omega
      have h4 : ¬ 0 ≤ i := by omega
      have e3 : wrap64 i = i := by rw [← Int.sub_zero i]; exact e2
      have e4 : wrap64 c = c := Go.IntWalk.wrap64_in _ (by omega)
      clear hf ho e2 e1
      go_wp2_with fail
      go_ret
      exact ⟨ret_int (by have := HS.out; omega), hbx.alloc hbx.size _⟩
end Go.Proofs.Ytpdidlnbeahanaa
