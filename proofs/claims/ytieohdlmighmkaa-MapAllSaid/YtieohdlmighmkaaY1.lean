import Derived.Test.YtieohdlmighmkaaY0
namespace Go.Proofs.Ytieohdlmighmkaa.I
open Go Go.RowKit Go.Shelf Go.Proofs Go.Proofs.Ytieohdlmighmkaa

/-! ### The map beside a row of one's own -/
theorem Tr.of_nodes {W W' : World} {B : Nat} (hb : ∀ (b : Nat) (cs : Array Value), W.heap[b]? = some (Obj.cells cs 65) → W'.heap[b]? = W.heap[b]?) : ∀ {t : T Int} {p : Option Addr}, Tr W B t p → Tr W' B t p
  | .nil, _, h => h
  | .nd _ _ _ _, _, ⟨b, lp, rp, h1, h2, h3, h4, h5⟩ => ⟨b, lp, rp, h1, h2, (hb b _ h3).trans h3, Tr.of_nodes hb h4, Tr.of_nodes hb h5⟩
/-- A row of pairs turned: the map is as it was. -/
theorem Mp.row {D : Nat} {W0 : World} {g : Nat} {lb : Array Value} {key : Int → Int} {mb : Nat} {L : List (Int × Int)} {W W' : World} {o : Option Nat} (h : Mp D W0 g lb key mb L W) (hg : W.grownBy W' o)
    (ho : ∀ q, o = some q → mb < q ∧ ∃ cur, W.heap[q]? = some (.cells cur 31)) : Mp D W0 g lb key mb L W' := by
  have hmb : W'.heap[mb]? = W.heap[mb]? := hg.block mb h.lt (fun e => by have := (ho mb e.symm).1; omega)
  obtain ⟨t, p, h1, h2, h3⟩ := h.rt
  refine ⟨h.dm, (World.cell?_of_block (w := W) hmb).trans h.c0, ⟨t, p, (World.cell?_of_block (w := W) hmb).trans h1, Tr.of_nodes (fun b cs hb => hg.block b (lt_of_heap hb) (fun e => ?_)) h2, h3⟩, (World.frozen?_of_block (w := W) hmb).trans h.fz, h.srt,
    h.bel.trans ⟨hg.os, hg.tape, hg.output, hg.size, fun b hb => hg.block b (by have := h.lt; have := h.dm; omega) (fun e => by have := (ho b e.symm).1; have := h.dm; omega)⟩⟩
  obtain ⟨_, cur, hc⟩ := ho b e.symm
  rw [hb] at hc
  cases hc
abbrev ORow (W : World) (mb : Nat) (v : Value) (L : List (Int × Int)) : Prop := W.ownsRow (mb + 1) 31 2 v L.length (cells2 L)
theorem ORow.block {W : World} {mb : Nat} {v : Value} {L : List (Int × Int)} (h : ORow W mb v L) : ∀ q, v.ownBlock = some q → mb < q ∧ ∃ cur, W.heap[q]? = some (.cells cur 31) := fun q hq => by
  rcases h.2 with ⟨rfl, _⟩ | ⟨g, cap, cur, rfl, hg, hh, _⟩
  · simp [Value.ownBlock] at hq
  · simp [Value.ownBlock] at hq
    subst hq
    exact ⟨by omega, cur, hh⟩
/-- The map turned: the row is as it was. -/
theorem ORow.chg {W W' : World} {mb : Nat} {v : Value} {L : List (Int × Int)} (h : ORow W mb v L) (hc : Chg (fun b => b = mb) W W') : ORow W' mb v L := by
  refine ⟨h.1, ?_⟩
  rcases h.2 with h2 | ⟨g, cap, cur, hv, hg, hh, r⟩
  · exact .inl h2
  · exact .inr ⟨g, cap, cur, hv, hg, (hc.block g (lt_of_heap hh) (by omega)).trans hh, r⟩
theorem ORow.later {W W' : World} {mb : Nat} {v : Value} {L : List (Int × Int)} (h : ORow W mb v L) (hb : Below W.heap.size W W') : ORow W' mb v L := h.chg (Chg.of_below hb)

/-! ### Where a key stands -/
theorem below_le {k : Int} : ∀ {L : List (Int × Int)}, below (fun x => x) k L ≤ L.length
  | [] => Nat.le_refl _
  | (a, w) :: r => by
    rw [below]
    split
    · have := below_le (k := k) (L := r); simp; omega
    · simp
theorem ins_has {k v : Int} : ∀ {L : List (Int × Int)} (h : below (fun x => x) k L < L.length), L[below (fun x => x) k L].1 = k → insL (fun x => x) k v L = L.set (below (fun x => x) k L) (k, v)
  | [], h, _ => by simp at h
  | (a, w) :: r, h, he => by
    by_cases hk : a < k
    · have eb : below (fun x => x) k ((a, w) :: r) = below (fun x => x) k r + 1 := by rw [below, if_pos hk]
      simp only [eb] at h he ⊢
      have ih := ins_has (k := k) (v := v) (L := r) (by simpa using h) (by simpa using he)
      rw [insL, if_neg (by omega), if_pos hk, ih, List.set_cons_succ]
    · have eb : below (fun x => x) k ((a, w) :: r) = 0 := by rw [below, if_neg hk]
      simp only [eb] at h he ⊢
      have he : a = k := he
      rw [insL, if_neg (by omega), if_neg (by omega), he]
      rfl
theorem ins_new {k v : Int} : ∀ {L : List (Int × Int)}, (∀ h : below (fun x => x) k L < L.length, L[below (fun x => x) k L].1 ≠ k) → insL (fun x => x) k v L = L.take (below (fun x => x) k L) ++ (k, v) :: L.drop (below (fun x => x) k L)
  | [], _ => rfl
  | (a, w) :: r, he => by
    by_cases hk : a < k
    · have eb : below (fun x => x) k ((a, w) :: r) = below (fun x => x) k r + 1 := by rw [below, if_pos hk]
      simp only [eb] at he ⊢
      have ih := ins_new (k := k) (v := v) (L := r) (fun h => by have := he (by simpa using h); simpa using this)
      rw [insL, if_neg (by omega), if_pos hk, ih]
      rfl
    · have eb : below (fun x => x) k ((a, w) :: r) = 0 := by rw [below, if_neg hk]
      simp only [eb] at he ⊢
      have he : a ≠ k := he (by simp)
      rw [insL, if_pos (by omega)]
      rfl
theorem del_has {k : Int} : ∀ {L : List (Int × Int)} (h : below (fun x => x) k L < L.length), L[below (fun x => x) k L].1 = k → delL (fun x => x) k L = L.eraseIdx (below (fun x => x) k L)
  | [], h, _ => by simp at h
  | (a, w) :: r, h, he => by
    by_cases hk : a < k
    · have eb : below (fun x => x) k ((a, w) :: r) = below (fun x => x) k r + 1 := by rw [below, if_pos hk]
      simp only [eb] at h he ⊢
      have ih := del_has (k := k) (L := r) (by simpa using h) (by simpa using he)
      rw [delL, if_neg (by omega), ih]
      rfl
    · have eb : below (fun x => x) k ((a, w) :: r) = 0 := by rw [below, if_neg hk]
      simp only [eb] at h he ⊢
      have he : a = k := he
      rw [delL, if_pos he]
      rfl
theorem get_has {k : Int} : ∀ {L : List (Int × Int)} (h : below (fun x => x) k L < L.length), L[below (fun x => x) k L].1 = k → getL (fun x => x) k L = some L[below (fun x => x) k L].2
  | [], h, _ => by simp at h
  | (a, w) :: r, h, he => by
    by_cases hk : a < k
    · have eb : below (fun x => x) k ((a, w) :: r) = below (fun x => x) k r + 1 := by rw [below, if_pos hk]
      simp only [eb] at h he ⊢
      have ih := get_has (k := k) (L := r) (by simpa using h) (by simpa using he)
      rw [getL, if_neg (by omega), ih]
      simp
    · have eb : below (fun x => x) k ((a, w) :: r) = 0 := by rw [below, if_neg hk]
      simp only [eb] at h he ⊢
      have he : a = k := he
      rw [getL, if_pos he]
      rfl
theorem get_new {k : Int} {L : List (Int × Int)} (hs : Srt (fun x => x) L) (he : ∀ h : below (fun x => x) k L < L.length, L[below (fun x => x) k L].1 ≠ k) : getL (fun x => x) k L = none := by
  induction L with
  | nil => rfl
  | cons p r ih =>
    obtain ⟨a, w⟩ := p
    unfold Srt at hs
    rw [List.pairwise_cons] at hs
    by_cases hk : a < k
    · have eb : below (fun x => x) k ((a, w) :: r) = below (fun x => x) k r + 1 := by rw [below, if_pos hk]
      simp only [eb] at he
      rw [getL, if_neg (by omega)]
      exact ih hs.2 (fun h => by have := he (by simpa using h); simpa using this)
    · have eb : below (fun x => x) k ((a, w) :: r) = 0 := by rw [below, if_neg hk]
      simp only [eb] at he
      have he : a ≠ k := he (by simp)
      rw [getL, if_neg he]
      exact getL_none (key := fun x => x) (fun p hp => by have : a < p.1 := hs.1 p hp; show k < p.1; omega)
/-- Where the search ends. -/
theorem below_is {k : Int} : ∀ {L : List (Int × Int)} {at_ : Nat}, at_ ≤ L.length → (∀ q (h : q < L.length), q < at_ → L[q].1 < k) → (∀ h : at_ < L.length, ¬ L[at_].1 < k) → below (fun x => x) k L = at_
  | [], at_, h, _, _ => by simp at h; rw [h]; rfl
  | (a, w) :: r, 0, _, _, h2 => by
    have := h2 (by simp)
    have hk : ¬ a < k := this
    rw [below, if_neg hk]
  | (a, w) :: r, at_ + 1, h, h1, h2 => by
    have hk : a < k := h1 0 (by simp) (by omega)
    rw [below, if_pos hk, below_is (L := r) (at_ := at_) (by simpa using h) (fun q hq hqa => h1 (q + 1) (by simpa using hq) (by omega)) (fun hh => h2 (by simpa using hh))]
end Go.Proofs.Ytieohdlmighmkaa.I
