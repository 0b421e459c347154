/- Span. -/
import Derived.Test.YtpdidlnbeahanaaF2
namespace Go.Proofs.Ytpdidlnbeahanaa
open Go Go.RowKit Go.Proofs

theorem add_any {W : World} {mb : Nat} {v : Value} {l : List R2} {f t : Int} (hl : Nrm l) (h : Mk W mb v l) : Calls Try.prog 32 #[(Value.pointer (some ⟨mb, 0, none⟩)), (Value.int .i64 (f)), (Value.int .i64 (t))] W (Added W mb v l f t) := by
  by_cases hf : f < t
  · rcases snoc_or l with rfl | ⟨k, r, rfl⟩
    · exact add_new hl h hf (fun k r e => by simp at e)
    · by_cases ht : f ≤ r.2
      · exact add_touch h hf ht (runs_len hl.left)
      · exact add_new hl h hf (fun k' r' e => by
          have := List.append_inj' e rfl
          rw [List.cons.injEq] at this
          rw [← this.2.1]
          exact ht)
  · exact add_no h hf
theorem mk_start (W : World) : Mk (W.alloc (.cells #[.slice none 0 0] 27)) W.heap.size (.slice none 0 0) [] := ⟨Cell.new W _ 27, HRow.nil⟩

/-- The answer is a Map of the set P. -/
def IsMap (P : Int → Bool) (W : World) (e : Ending) (w' : World) : Prop := ∃ v l, e = .returned (.agg #[v]) ∧ Mv w' v l ∧ Nrm l ∧ Is l P ∧ Below W.heap.size W w'
theorem fin_map {W x : World} {rb mb : Nat} {v : Value} {l : List R2} {P : Int → Bool} (h : Mk x mb v l) (hr : rb < mb) (hl : Nrm l) (hP : Is l P) (hb : Below W.heap.size W x) (hrb : W.heap.size ≤ rb) :
    IsMap P W (.returned (.agg #[v])) (x.setCell ⟨rb, 0, none⟩ v) :=
  ⟨v, l, rfl, HRow.of h.mv (fun k hk => Below.heap_setCell _ _ _ _ (by have := (h.2.lt k hk).1; show k ≠ rb; omega)), hl, hP, hb.setCell hrb _⟩
theorem Mk.below {W x y : World} {mb : Nat} {v : Value} {l : List R2} (h : Mk x mb v l) (hc : Chg (fun b => b = mb ∨ v.ownBlock = some b) x y) (hb : Below W.heap.size W x) (hm : W.heap.size ≤ mb) : Below W.heap.size W y :=
  hb.trans (hc.below hb.size (fun b hlt hs => by
    rcases hs with rfl | hs
    · omega
    · have := (h.2.lt b hs).1; omega))
/-- What lies below the Map that is made stays. -/
theorem Mk.keep {x y : World} {mb : Nat} {v : Value} {l : List R2} (h : Mk x mb v l) (hc : Chg (fun b => b = mb ∨ v.ownBlock = some b) x y) {b : Nat} (hb : b < mb) : y.heap[b]? = x.heap[b]? :=
  hc.block b (by have := h.lt; omega) (fun hs => by
    rcases hs with rfl | hs
    · omega
    · have := (h.2.lt b hs).1; omega)

theorem Mk.slc {W : World} {mb : Nat} {v : Value} {l : List R2} (h : Mk W mb v l) : ∃ p n c, v = .slice p n c := by
  obtain ⟨p, c, e, _⟩ := h.2.isslice
  exact ⟨p, _, c, e⟩
def spanP (a b x : Int) : Bool := decide (0 ≤ x ∧ x < 65536 ∧ a ≤ x ∧ x < b)
theorem span_is (a b : Int) : Nrm (addL [] (if a < 0 then 0 else a) (if 65536 < b then 65536 else b)) ∧ Is (addL [] (if a < 0 then 0 else a) (if 65536 < b then 65536 else b)) (spanP a b) := by
  obtain ⟨f, hf⟩ : ∃ f, (if a < 0 then 0 else a) = f := ⟨_, rfl⟩
  obtain ⟨t, ht⟩ : ∃ t, (if 65536 < b then 65536 else b) = t := ⟨_, rfl⟩
  have h1 : 0 ≤ f ∧ a ≤ f ∧ (f = a ∨ f = 0) := by rw [← hf]; split <;> omega
  have h2 : t ≤ 65536 ∧ t ≤ b ∧ (t = b ∨ t = 65536) := by rw [← ht]; split <;> omega
  rw [hf, ht]
  have hfit : Fits [] f t := fun _ => ⟨h1.1, h2.1, fun r h => by simp at h⟩
  refine ⟨add_nrm Nrm.nil hfit, fun x => ?_⟩
  rw [add_mem Nrm.nil hfit]
  unfold spanP
  rw [decide_eq_true_eq]
  have := mem_nil x
  constructor
  · intro h
    have := h.resolve_left this
    omega
  · intro h
    right
    omega
set_option maxRecDepth 100000 in
set_option maxHeartbeats 1000000 in
theorem span_any (a b : Int) (W : World) : Calls Try.prog 27 #[(Value.int .i64 (a)), (Value.int .i64 (b))] W (IsMap (spanP a b) W) := by
  have hs := mk_start (W.alloc (.cells #[.slice none 0 0] 27))
  have hB : Below W.heap.size W ((W.alloc (.cells #[.slice none 0 0] 27)).alloc (.cells #[.slice none 0 0] 27)) := (below_alloc W _).alloc (by simp) _
  have h0 : ((W.alloc (.cells #[.slice none 0 0] 27)).alloc (.cells #[.slice none 0 0] 27)).heap[W.heap.size]? = some (.cells #[.slice none 0 0] 27) := (Below.heap_alloc _ _ _ (by simp)).trans (heap_alloc_new W _)
  rw [World.size_alloc] at hs
  have hadd := fun f t => add_any (f := f) (t := t) Nrm.nil hs
  have HH := Lib.hid (And.intro hs (And.intro hB h0))
  clear hs hB h0
  go_enter Try.func27, Try.ntmps27
  go_wp2_with (go_at_call 32; (with_reducible refine (hadd _ _).mono ?_); rintro e x1 ⟨rfl, v1, k1, c1, o1⟩; clear hadd; have kb := (HH.out.1.keep c1 (Nat.lt_succ_self _)).trans HH.out.2.2; have z0 := nd_cell kb 0; have zf := frozen_of_row x1 W.heap.size 0 _ _ kb; obtain ⟨p1, n1, cp1, rfl⟩ := k1.slc; have m0 := k1.1.1; have HK := Lib.hid (And.intro k1 c1); clear k1 c1 o1 kb)
  all_goals
    have s0 := World.cell?_setCell_same x1 ⟨W.heap.size, 0, none⟩ (.slice p1 n1 cp1) z0
    refine bodyPost_ret (v := .agg #[.slice p1 n1 cp1]) (by simp [results, Try.results27, go_sem, s0]) rfl ?_
    exact fin_map HK.out.1 (Nat.lt_succ_self _) (span_is a b).1 (span_is a b).2 (HH.out.1.below HK.out.2 HH.out.2.1 (Nat.le_succ _)) (Nat.le_refl _)
end Go.Proofs.Ytpdidlnbeahanaa
