/- Append. -/
import Derived.Test.YtglfmbpcapendaaO4
import Derived.Deep.RegionLaw
namespace Go.Proofs.Ytglfmbpcapendaa.S
open Go Go.RowKit Go.Shelf Go.Proofs Go.Proofs.Ytglfmbpcapendaa
section
variable {cb : Nat} {kind n : Int} {v : Value} {L : List (K 12 × Int)} {W0 W W' : World}

set_option maxRecDepth 100000 in
theorem append_no (h : Cm cb kind v n L W0 W) (k n1 : Int) (s : ByteArray) (hs : s.size ≤ maxLen) (hi : inC kind (k, n1, s) = false) : Calls Try.prog 10 #[(Value.pointer (some ⟨cb, 0, none⟩)), (Value.agg #[Value.int .i64 (k), Value.int .i64 (n1), Value.string (s)])] W fun e w' => e = .returned (.bool false) ∧ Below W.heap.size W w' := by
  have ht := takes_any (h.later (below_alloc W (.cells #[.int .i64 k, .int .i64 n1, .string s] 28))) k n1 s hs
  rw [hi] at ht
  go_enter Try.func10, Try.ntmps10
  go_wp2_with (go_at_call 19; (with_reducible refine ht.mono ?_); rintro e x1 ⟨rfl, b1⟩)
  go_ret
  exact ⟨rfl, below_on (below_alloc W _) b1⟩

/-- What stands in the column behind one more. -/
def nUp (n : Int) (x : T3) : Int := if x.1 = 0 then n + 1 else n
def lUp (L : List (K 12 × Int)) (x : T3) : List (K 12 × Int) := if x.1 = 2 then insL keyOf (wd x.2.2) (tm (wd x.2.2) L + 1) L else L
theorem inC_size {x : T3} (h : inC kind x = true) (h2 : x.1 = 2) : x.2.2.size ≤ 12 := by
  unfold inC at h
  rw [Bool.and_eq_true] at h
  have h := h.1
  unfold mayV at h
  rw [h2] at h
  simp [mayT] at h
  exact h.2.1
/-- count, of any value. -/
theorem ccount_any (h : Cm cb kind v n L W0 W) (x : T3) (hs : x.1 = 2 → x.2.2.size ≤ 12) (hn : 0 ≤ n ∧ n ≤ 1000000) (hl : L.length + 1 ≤ 999999) (ht : ∀ s, tm s L + 1 ≤ 1000000) :
    Calls Try.prog 20 #[(Value.pointer (some ⟨cb, 0, none⟩)), (Value.agg #[Value.int .i64 (x.1), Value.int .i64 (x.2.1), Value.string (x.2.2)])] W fun e w' => e = .returned (.tuple #[]) ∧ Cm cb kind v (nUp n x) (lUp L x) W0 w' ∧ Chg (fun b => b = cb) W w' := by
  obtain ⟨k, n1, s⟩ := x
  unfold nUp lUp
  by_cases h0 : k = 0
  · subst h0
    exact count_null h n1 s hn
  · by_cases h2 : k = 2
    · subst h2
      exact count_text h n1 s (hs rfl) hl (ht _)
    · simp only [h0, h2, if_false]
      exact (count_other h n1 s k h0 h2).mono (fun e w' ⟨he, hb⟩ => ⟨he, h.later hb, Chg.of_below hb⟩)

set_option maxRecDepth 100000 in
set_option maxHeartbeats 2000000 in
theorem append_yes {l : List T3} (h : Cm cb kind v n L W0 W) (hr : HRow W (cb + 1) 28 3 v l.length (cells3 l)) (hll : l.length + 1 ≤ 1000) (x : T3) (hs : x.2.2.size ≤ maxLen) (hi : inC kind x = true) (hn : 0 ≤ n ∧ n ≤ 1000000) (hl : L.length + 1 ≤ 999999) (ht : ∀ s, tm s L + 1 ≤ 1000000) :
    Calls Try.prog 10 #[(Value.pointer (some ⟨cb, 0, none⟩)), (Value.agg #[Value.int .i64 (x.1), Value.int .i64 (x.2.1), Value.string (x.2.2)])] W fun e w' => e = .returned (.bool true) ∧ ∃ v', Cm cb kind v' (nUp n x) (lUp L x) W0 w' ∧ HRow w' (cb + 1) 28 3 v' (l ++ [x]).length (cells3 (l ++ [x])) ∧ (∀ q, v'.ownBlock = some q → v.ownBlock = some q ∨ W.heap.size ≤ q) ∧ Chg (fun b => b = cb ∨ v.ownBlock = some b) W w' := by
  have hc := fun (y : World) (u : Value) (hy : Cm cb kind u n L W0 y) => ccount_any hy x (inC_size hi) hn hl ht
  have hlen : (l ++ [x]).length = l.length + 1 := by simp
  have hcell : cells3 (l ++ [x]) = cells3 l ++ [.int .i64 x.1, .int .i64 x.2.1, .string x.2.2] := by rw [cells3_append]; simp [cells3]
  rw [hlen, hcell]
  generalize nUp n x = n' at hc ⊢
  generalize lUp L x = L' at hc ⊢
  obtain ⟨k, n1, s⟩ := x
  have ht := takes_any (h.later (below_alloc W (.cells #[.int .i64 k, .int .i64 n1, .string s] 28))) k n1 s hs
  rw [hi] at ht
  have hnew := heap_alloc_new W (.cells #[.int .i64 k, .int .i64 n1, .string s] 28)
  have hap := fun y (hy : HRow y (cb + 1) 28 3 v l.length (cells3 l)) (hlt : cb + 1 ≤ y.heap.size) => app_one y (cb + 1) hy (by omega) hlt k n1 s
  have hba := below_alloc W (.cells #[.int .i64 k, .int .i64 n1, .string s] 28)
  obtain ⟨B, hB⟩ : ∃ B, W.heap.size = B := ⟨_, rfl⟩
  have hlt := h.lt
  rw [hB] at hnew hba hlt
  have HF := Lib.hid (And.intro hnew (And.intro hba (And.intro h hr)))
  have HC := Lib.hid (And.intro hlen hcell)
  obtain ⟨m, hm⟩ : ∃ m, l.length = m := ⟨_, rfl⟩
  obtain ⟨xs, hxs⟩ : ∃ xs, cells3 l = xs := ⟨_, rfl⟩
  rw [hm, hxs] at hap hr
  simp only [hm, hxs]
  clear hnew hba hi hlen hcell
  go_enter Try.func10, Try.ntmps10
  go_wp2_with (go_at_call 19; (with_reducible refine ht.mono ?_); rintro e x1 ⟨rfl, b1⟩)
  have hB1 : Below B W x1 := HF.out.2.1.trans (b1.mono (by rw [← hB]; simp))
  have hW1 : Below W.heap.size W x1 := hB.symm ▸ hB1
  have h1 := h.later hW1
  have c1 := h1.c1
  have f1 := h1.dm.fz 1
  have hr1 := hr.later hW1
  have bx : x1.heap[B]? = some (.cells #[.int .i64 k, .int .i64 n1, .string s] 28) := (b1.block B (by simp; omega)).trans HF.out.1
  have b0 := nd_cell bx 0
  have b1' := nd_cell bx 1
  have b2 := nd_cell bx 2
  have hz1 : cb + 1 ≤ x1.heap.size := by have := hB1.size; omega
  obtain ⟨g, cap', w3, hrun, r3, g3, own⟩ := hap x1.drew (hr1.later (Below.refl _ x1).drew) hz1
  have hrun : (Builtin.append_ #[26, 26] 26 #[v, .slice (some ⟨x1.heap.size, 0, none⟩) 1 1]).run Try.prog (x1.alloc (.cells #[.int .i64 k, .int .i64 n1, .string s] 28)).drew = .ok (.slice (some ⟨g, 0, none⟩) (m + 1) cap') w3 := hrun
  have hb3 : x1.grownBy w3 v.ownBlock := ⟨g3.os, g3.tape, g3.output, Nat.le_trans (by simp) g3.size, fun q hq hne => (g3.block q (by show q < (x1.alloc _).heap.size; simp; omega) hne).trans ((below_alloc x1 _).block q hq)⟩
  have hnb : ∀ q, v.ownBlock = some q → q ≠ cb ∧ Ty x1 q := fun q hq => by
    obtain ⟨q1, cur, q2⟩ := hr1.block q hq
    exact ⟨by omega, cur, 28, q2, by decide⟩
  have h3 := h1.other hb3 hnb
  have c3 := h3.c1
  have f3 := h3.dm.fz 1
  have hBn : ∀ q, v.ownBlock = some q → q ≠ B := fun q hq => by have := (HF.out.2.2.2.lt q hq).2; omega
  have bx3 : w3.heap[B]? = some (.cells #[.int .i64 k, .int .i64 n1, .string s] 28) := (hb3.block B (World.block_lt_of_cell? x1 ⟨B, 0, none⟩ b0) (fun e => hBn B e.symm rfl)).trans bx
  have HH := Lib.hid (And.intro h3 (And.intro r3 (And.intro hb3 (And.intro own (And.intro bx3 hW1)))))
  have hB3 : B < w3.heap.size := lt_of_heap bx3
  have hgc : g ≠ cb := by
    rcases own with e | e
    · exact (hnb g e).1
    · intro e2
      have : cb < x1.heap.size := h1.lt
      have : x1.heap.size ≤ g := e
      omega
  have hlt1 : cb < x1.heap.size := h1.lt
  have hBx1 : B < x1.heap.size := World.block_lt_of_cell? x1 ⟨B, 0, none⟩ b0
  clear h3 r3 hb3 g3 own bx3 hnb hBn h1 hr1 hap
  go_region_law (refine step_append_run rfl (.tmp 13) (.tmp 15) 26 rfl rfl rfl hrun ?_)
  all_goals
    obtain ⟨w4, hw4⟩ : ∃ w4, w4 = w3.setCell ⟨cb, 1, none⟩ (.slice (some ⟨g, 0, none⟩) (m + 1) cap') := ⟨_, rfl⟩
    rw [← hw4]
    obtain ⟨h3, r3, hb3, own, bx3, hW1⟩ := HH.out
    have h4 := h3.set1 (.slice (some ⟨g, 0, none⟩) (m + 1) cap')
    have bb4 : ∀ q, q ≠ cb → w4.heap[q]? = w3.heap[q]? := fun q hq => by rw [hw4]; exact Below.heap_setCell _ _ _ _ (fun e => hq e)
    rw [← hw4] at h4
    have r4 := r3.of (w' := w4) (fun q hq => bb4 q (by cases hq; exact hgc))
    have bx4 := (bb4 B (by omega)).trans bx3
    have d0 := nd_cell bx4 0
    have d1 := nd_cell bx4 1
    have d2 := nd_cell bx4 2
    have hcc := hc w4 _ h4
    have g4 : Chg (fun b => b = cb ∨ v.ownBlock = some b) W w4 := by
      rw [hw4]
      exact ((Chg.of_below hW1).grown hb3 (fun q hq _ => .inr hq)).setCell (fun _ => .inl rfl) _
    have HG := Lib.hid (And.intro r4 (And.intro g4 own))
    have hsz : W.heap.size ≤ x1.heap.size := hW1.size
    have HS := Lib.hid hsz
    clear h3 r3 hb3 own bx3 hW1 h4 bb4 r4 g4 hsz bx4 hw4
    go_wp2_with (go_at_call 20; (with_reducible refine hcc.mono ?_); rintro e w5 ⟨rfl, d5, c5⟩)
    go_ret
    refine ⟨rfl, _, d5, HG.out.1.chg (by omega) c5, fun q hq => ?_, HG.out.2.1.trans c5 (fun _ _ x => x) (fun _ _ x => .inl x)⟩
    cases hq
    exact HG.out.2.2.imp id (fun h => Nat.le_trans HS.out h)
end
end Go.Proofs.Ytglfmbpcapendaa.S
