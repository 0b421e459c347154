import Derived.Test.YtjlnfeableleeaaI
namespace Go.Proofs.Ytjlnfeableleeaa
open Go Go.RowKit Go.Shelf Go.Proofs
attribute [local go_sem] eql26n eql26f eql32f eql34f eql37f eql42n eql42f wide_fn wide_depth

theorem Gives.weaken {α : Type} {P : Program} {sv : Value} {encs : α → Array Value} {xs : List α} {M M' : Nat → Prop} {Q Q' : World → Prop} (h : Gives P sv encs xs M (fun _ => False) (fun _ => Q))
    (hM : ∀ b, M b → M' b) (hQ : ∀ W, Q' W → Q W) (hl : ∀ W W', Q' W → InW M' W → W.heap.size ≤ W'.heap.size → (∀ b, M' b → W'.heap[b]? = W.heap[b]?) → Q' W') : Gives P sv encs xs M' (fun _ => False) (fun _ => Q') := by
  refine ⟨fun _ => hl, h.2.1, fun _ x => x.elim, ?_⟩
  intro yf yb J Jx S W hJ hJx hS hM' hSM hq h0 hY
  refine (h.2.2.2 yf yb J Jx S W hJ hJx hS (fun b x => hM' b (hM b x)) (fun b x y => hSM b x (hM b y)) (hQ W hq) h0 hY).mono ?_
  rintro e W' ⟨v, S', rfl, a1, a2, a3, a4⟩
  have hq' : Q' W' := hl W W' hq hM' a3.size (fun b x => a3.block b (hM' b x) (by rintro (y | y); (· exact hSM b y x); exact y))
  refine ⟨v, S', rfl, a1, a2, a3, ?_⟩
  rcases a4 with ⟨a4, _⟩ | ⟨k, k1, k2, k3, _⟩
  · exact .inl ⟨a4, hq'⟩
  · exact .inr ⟨k, k1, k2, k3, hq'⟩

theorem info26 : (Try.prog.info? 26).map (fun i => (i.zero, i.size, i.bytes)) = some (some .nilFunc, 1, 8) := by kernel_rfl

theorem clone36_any (s : Value) (vs : List Value) (B : Nat → Prop) (hlen : vs.length ≤ 1000000) (hv : ∀ v, v ∈ vs → Fv v) (W : World) (h : Vals W s vs B) :
    Calls Try.prog 36 #[s] W fun e W' => ∃ p k c, e = .returned (.slice p k c) ∧ W'.ownsRow W.heap.size 26 1 (.slice p k c) vs.length vs ∧ Below W.heap.size W W' := by
  obtain ⟨i0, hi, hz0, hz1, hz2⟩ := info_parts info26
  rcases h with ⟨rfl, rfl⟩ | ⟨b, off, cap, rfl, hb, hx⟩
  · refine (Try.slices_Clone_nil_f36 0 0 W).mono ?_
    rintro e w' ⟨rfl, rfl⟩
    exact ⟨_, _, _, rfl, World.ownsRow_nil _ _ _ _, .refl _ _⟩
  · refine (Try.slices_Clone_f36 i0 .nilFunc 1 8 hi hz0 hz1 hz2 rfl (by decide) (by intro w; exact Try.sizeOf26 w) b off vs.length cap vs W (by simp) (by unfold maxLen; omega) (by omega) ?_ ?_).mono ?_
    · intro j u hj
      have hjl : j < vs.length := by
        rcases Nat.lt_or_ge j vs.length with h | h
        · exact h
        · rw [List.getElem?_eq_none h] at hj; cases hj
      rw [hx j hjl, hj]; rfl
    · intro u hu
      rcases hv u hu with rfl | ⟨g, lb, rfl⟩ <;> rfl
    · rintro e w' ⟨v', rfl, h1, h2, h3⟩
      obtain ⟨p, k, c, rfl⟩ := row_slice h1
      exact ⟨p, k, c, rfl, h1, h3⟩

theorem row_vals {W : World} {base e : Nat} {v : Value} {vs : List Value} (h : W.ownsRow base e 1 v vs.length vs) : Vals W v vs (fun b => v.ownBlock = some b) := by
  have hc := fun g hg => World.ownsRow.cells h (g := g) hg
  obtain ⟨h1, h2⟩ := h
  rcases h2 with ⟨rfl, h2⟩ | ⟨g, cap, cur, rfl, hg, hh, r⟩
  · exact .inl ⟨rfl, List.length_eq_zero_iff.1 h2⟩
  · refine .inr ⟨g, 0, cap, rfl, rfl, fun j hj => ?_⟩
    have := hc g rfl j vs[j] (by simp [hj])
    rw [show vs[j]?.getD undef = vs[j] by simp [hj]]
    by_cases hj0 : j = 0
    · subst hj0; simpa [Addr.add] using this
    · simpa [Addr.add, hj0] using this

set_option maxHeartbeats 1000000 in
/-- **Chain.** -/
theorem sq_chain (s : Value) (l : List (Value × List Int)) (B : Nat → Prop) (hlen : l.length ≤ 1000000) (W : World) (h : Vals W s (l.map Prod.fst) B) (hl : ∀ p, p ∈ l → Sq W p.1 p.2) : Calls Try.prog 11 #[s] W (Makes (flat l) W) := by
  have hcl := clone36_any s (l.map Prod.fst) B (by simpa using hlen) (fun v hv => by obtain ⟨p, hp, rfl⟩ := List.mem_map.1 hv; exact (hl p hp).fv) W h
  have hs : ∃ p k c, s = .slice p k c := by
    rcases h with ⟨rfl, _⟩ | ⟨_, _, _, rfl, _⟩
    · exact ⟨_, _, _, rfl⟩
    · exact ⟨_, _, _, rfl⟩
  obtain ⟨p0, k0, c0, rfl⟩ := hs
  obtain ⟨n0, hn0⟩ : ∃ n0, W.heap.size = n0 := ⟨_, rfl⟩
  have hst : ∀ p, p ∈ l → Gives Try.prog p.1 enc1 p.2 (fun b => b < n0) (fun _ => False) (fun _ W' => n0 ≤ W'.heap.size ∧ ∀ b, b < n0 → W'.heap[b]? = W.heap[b]?) ∨ (p.1 = .nilFunc ∧ p.2 = []) := fun p hp => by
    obtain ⟨M, Q, h1, h2, h3⟩ := hl p hp
    rcases h1 with h1 | ⟨h1, h1', _⟩
    · refine .inl (h1.weaken (fun b x => by rw [← hn0]; exact h2 b x) (fun W' hW' => ?_) ?_)
      · exact h1.1 0 W W' h3 h2 (by omega) (fun b x => hW'.2 b (by rw [← hn0]; exact h2 b x))
      · rintro A B' ⟨a1, a2⟩ hin hsz hb
        exact ⟨by omega, fun b x => (hb b x).trans (a2 b x)⟩
    · exact .inr ⟨h1, h1'⟩
  clear h hl
  go_enter Try.func11, Try.ntmps11
  go_wp2_with (go_at_call 36; refine hcl.mono ?_; rintro e w1 ⟨p, k, c, rfl, hr, hb⟩)
  go_ret
  have hi := row_vals (by simpa using hr : w1.ownsRow W.heap.size 26 1 (.slice p k c) (l.map Prod.fst).length (l.map Prod.fst))
  have hrl : ∀ b, (Value.slice p k c).ownBlock = some b → W.heap.size ≤ b ∧ b < w1.heap.size := fun b x => hr.lt b x
  have hg := chain_gives w1.heap.size (.slice p k c) l hlen (fun b => b < n0) (fun W' => n0 ≤ W'.heap.size ∧ ∀ b, b < n0 → W'.heap[b]? = W.heap[b]?) (by
    rintro A B' ⟨a1, a2⟩ hin hsz hb
    exact ⟨by omega, fun b x => (hb b x).trans (a2 b x)⟩) hst (fun b => (Value.slice p k c).ownBlock = some b)
  have hsz := hb.size
  refine ⟨37, _, rfl, ⟨_, _, .inl hg, ?_, Cell.new w1 _ _, hi.of (fun b x => Below.heap_alloc _ _ _ (hrl b x).2), by simp; omega, fun b x => (Below.heap_alloc _ _ _ (by omega)).trans (hb.block b (by omega))⟩, hb.alloc hb.size _⟩
  rintro b (rfl | x | x)
  · simp
  · have := hrl b x; simp; omega
  · simp; omega
end Go.Proofs.Ytjlnfeableleeaa
