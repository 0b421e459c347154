/- add. -/
import Derived.Test.YtpdidlnbeahanaaE
namespace Go.Proofs.Ytpdidlnbeahanaa
open Go Go.RowKit Go.Proofs

/-- A Map that is being made: the variable mb holds v, the runs l. -/
def Mk (W : World) (mb : Nat) (v : Value) (l : List R2) : Prop := Cell W mb v ∧ HRow W (mb + 1) 56 3 v l.length (cellsI (mk l))
theorem Mk.lt {W : World} {mb : Nat} {v : Value} {l : List R2} (h : Mk W mb v l) : mb < W.heap.size := h.1.lt
theorem HRow.mono {w : World} {base base' : Nat} {e : TypeId} {size : Nat} {v : Value} {n : Nat} {xs : List Value} (h : HRow w base e size v n xs) (hb : base' ≤ base) : HRow w base' e size v n xs := by
  refine ⟨h.1, ?_⟩
  rcases h.2 with h2 | ⟨g, cap, cur, hv, hg, rest⟩
  · exact .inl h2
  · exact .inr ⟨g, cap, cur, hv, Nat.le_trans hb hg, rest⟩
theorem Mk.mv {W : World} {mb : Nat} {v : Value} {l : List R2} (h : Mk W mb v l) : Mv W v l := HRow.mono h.2 (Nat.zero_le _)
theorem Mk.of {W W' : World} {mb : Nat} {v : Value} {l : List R2} (h : Mk W mb v l) (hb : ∀ b, mb ≤ b → b < W.heap.size → (b = mb ∨ v.ownBlock = some b) → W'.heap[b]? = W.heap[b]?) : Mk W' mb v l :=
  ⟨h.1.of (hb mb (Nat.le_refl _) h.lt (.inl rfl)), h.2.of (fun k hk => by have := h.2.lt k hk; exact hb k (by omega) this.2 (.inr hk))⟩
theorem Mk.later {W W' : World} {mb : Nat} {v : Value} {l : List R2} (h : Mk W mb v l) (hb : Below W.heap.size W W') : Mk W' mb v l := h.of (fun b _ h2 _ => hb.block b h2)

/-- Behind add: the Map with one span more. -/
def Added (W : World) (mb : Nat) (v : Value) (l : List R2) (f t : Int) (e : Ending) (W' : World) : Prop := e = .returned (.tuple #[]) ∧ ∃ v', Mk W' mb v' (addL l f t) ∧ Chg (fun b => b = mb ∨ v.ownBlock = some b) W W' ∧ ∀ q, v'.ownBlock = some q → v.ownBlock = some q ∨ W.heap.size ≤ q

theorem add_no {W : World} {mb : Nat} {v : Value} {l : List R2} {f t : Int} (h : Mk W mb v l) (hf : ¬ f < t) : Calls Try.prog 32 #[(Value.pointer (some ⟨mb, 0, none⟩)), (Value.int .i64 (f)), (Value.int .i64 (t))] W (Added W mb v l f t) := by
  have e := addL_no (l := l) hf
  have hf : t ≤ f := by omega
  go_enter Try.func32, Try.ntmps32
  go_wp2
  go_end0
  exact ⟨rfl, v, by rw [e]; exact h, Chg.refl _ _, fun q hq => .inl hq⟩

theorem touch_done {W : World} {mb g cap : Nat} {k : List R2} {r : R2} {f t c : Int} (h : Mk W mb (.slice (some ⟨g, 0, none⟩) (k.length + 1) cap) (k ++ [r])) (hf : f < t) (ht : f ≤ r.2) (hc : c = max t r.2) :
    Added W mb (.slice (some ⟨g, 0, none⟩) (k.length + 1) cap) (k ++ [r]) f t (.returned (.tuple #[])) (W.setCell ⟨g, k.length * 3 + 1, none⟩ (Value.int .i64 (c))).drew := by
  have hlen : (k ++ [r]).length = k.length + 1 := by simp
  have h2 := h.2
  rw [hlen] at h2
  obtain ⟨s1, s2⟩ := h2.stored (k.length * 3 + 1) (Value.int .i64 (c))
  have e := cellsI_set1 (mk k) (r.1, r.2, ((els k).length : Int)) c
  rw [mk_len, ← mk_snoc] at e
  have e2 := mk_snoc k (r.1, max t r.2)
  have e3 : cellsI (mk (k ++ [(r.1, max t r.2)])) = (cellsI (mk (k ++ [r]))).set (k.length * 3 + 1) (Value.int .i64 (c)) := by
    rw [e, e2, hc]
  have hg := h2.lt g rfl
  refine ⟨rfl, .slice (some ⟨g, 0, none⟩) (k.length + 1) cap, ?_, ((Chg.refl _ W).setCell (fun _ => .inr rfl) _).drew, fun q hq => .inl hq⟩
  rw [addL_touch hf ht]
  refine ⟨(h.1.of (Below.heap_setCell _ _ _ _ (by show mb ≠ g; omega))).drew, ?_⟩
  rw [e3, show (k ++ [(r.1, max t r.2)]).length = k.length + 1 by simp]
  exact s1.later (Below.refl _ _).drew

set_option maxRecDepth 100000 in
set_option maxHeartbeats 1000000 in
theorem add_touch {W : World} {mb : Nat} {v : Value} {k : List R2} {r : R2} {f t : Int} (h : Mk W mb v (k ++ [r])) (hf : f < t) (ht : f ≤ r.2) (hk : k.length ≤ 65536) : Calls Try.prog 32 #[(Value.pointer (some ⟨mb, 0, none⟩)), (Value.int .i64 (f)), (Value.int .i64 (t))] W (Added W mb v (k ++ [r]) f t) := by
  have e := addL_touch (k := k) hf ht
  have hlen : (k ++ [r]).length = k.length + 1 := by simp
  have h2 := h.2
  rw [hlen] at h2
  obtain ⟨g, cap, rfl, hc, hcm⟩ := h2.slice (by omega)
  have hg := h2.lt g rfl
  obtain ⟨c0, c1, c2⟩ := cellsI_at (mk (k ++ [r])) k.length _ (mk_get (k ++ [r]) k.length (by simp))
  have c1 := h2.cell c1
  have f1 := h2.frozenAt (k.length * 3 + 1)
  simp at c1
  have m0 := h.1.1
  have HD := fun (c : Int) (hc : c = max t r.2) => touch_done h hf ht hc
  have HH := Lib.hid HD
  obtain ⟨n, hn⟩ : ∃ n, k.length = n := ⟨_, rfl⟩
  rw [hn] at hk c1 f1 hc m0 HH
  rw [hn]
  obtain ⟨a, b⟩ := r
  have c1 : W.cell? ⟨g, n * 3 + 1, none⟩ = some (Value.int .i64 (b)) := c1
  have ht : f ≤ b := ht
  have x1 : (n : Int) < (n : Int) + 1 := by omega
  have x2 : n < n + 1 := by omega
  have x3 : (n : Int) < ((n + 1 : Nat) : Int) := by omega
  clear HD hn h hlen h2 e c0 c2
  rcases Int.lt_or_le t b with hm | hm
  · have h3 : ¬ b < t := by omega
    go_enter Try.func32, Try.ntmps32
    go_wp2_with fail
    go_region_law (fail)
    all_goals
      go_wp2_with fail
      go_end0
      exact HH.out b (by show b = max t b; omega)
  · have h3 : ¬ t < b := by omega
    go_enter Try.func32, Try.ntmps32
    go_wp2_with fail
    go_region_law (fail)
    all_goals
      go_wp2_with fail
      go_end0
      first | exact HH.out t (by show t = max t b; omega) | (have e : t = b := by omega; subst e; exact HH.out t (by show t = max t t; omega))
end Go.Proofs.Ytpdidlnbeahanaa
