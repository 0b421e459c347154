import Derived.Test.YthkggkndglbdkaaX2
import Derived.Test.YthkggkndglbdkaaU
namespace Go.Proofs.Ythkggkndglbdkaa.S
open Go Go.RowKit Go.Shelf Go.Proofs Go.Proofs.Ythkggkndglbdkaa
variable {M : Nat}

theorem Dm.grown {W0 W W' : World} {mb : Nat} {L : List (K M × Int)} {o : Option Nat} (h : Dm W0 mb L W) (hg : W.grownBy W' o) (ho : ∀ q, o = some q → q ≠ mb ∧ Ty W q) : Dm W0 mb L W' := by
  cases o with
  | none => exact h.later ⟨hg.os, hg.tape, hg.output, hg.size, fun b hb => hg.block b hb (by simp)⟩
  | some q =>
    obtain ⟨h1, h2⟩ := ho q rfl
    exact h.other (o := q) ⟨hg.os, hg.tape, hg.output, hg.size, fun b hb hn => hg.block b hb (by simpa using hn)⟩ h1 h2
theorem HRow.ty {w : World} {base : Nat} {size : Nat} {v : Value} {n : Nat} {xs : List Value} (h : HRow w base 9 size v n xs) : ∀ q, v.ownBlock = some q → base ≤ q ∧ Ty w q := fun q hq => by
  obtain ⟨h1, cur, h2⟩ := h.block q hq
  exact ⟨h1, cur, 9, h2, by decide⟩
theorem Cnt.take {l : List (K M)} {L : List (K M × Int)} (h : Cnt l L) (hs : Srt keyOf L) (s : K M) {l' : List (K M)} (hl : ∀ t, cnt t l' = if s = t then cnt t l - 1 else cnt t l) : Cnt l' (takeL s L) := fun t => by
  have h1 := h s
  rw [tm_take s t hs (by omega), hl t]
  by_cases e : s = t
  · subst e
    rw [if_pos rfl, if_pos rfl, h1]
    split <;> omega
  · rw [if_neg e, if_neg e]
    exact h t
theorem cnt_cons (s a : K M) (r : List (K M)) : cnt s (a :: r) = (if a = s then 1 else 0) + cnt s r := by
  have := cnt_app s [a] r
  rw [cnt_one] at this
  exact this
theorem cnt_erase : ∀ (l : List (K M)) (a : Nat) (h : a < l.length) (t : K M), cnt t (l.eraseIdx a) = if l[a] = t then cnt t l - 1 else cnt t l
  | b :: r, 0, _, t => by
    simp only [List.eraseIdx_zero, List.tail_cons, List.getElem_cons_zero]
    rw [cnt_cons]
    by_cases e : b = t
    · rw [if_pos e, if_pos e]; omega
    · rw [if_neg e, if_neg e]; omega
  | b :: r, a + 1, h, t => by
    have h' : a < r.length := by simpa using h
    have ih := cnt_erase r a h' t
    simp only [List.eraseIdx_cons_succ, List.getElem_cons_succ]
    rw [cnt_cons, ih, cnt_cons]
    by_cases e : r[a] = t
    · rw [if_pos e, if_pos e]
      have : 1 ≤ cnt t r := cnt_mem.2 (e ▸ List.getElem_mem _)
      omega
    · rw [if_neg e, if_neg e]
theorem cnt_none {s : K M} {l : List (K M)} (h : s ∉ l) : cnt s l = 0 := by
  have := mt cnt_mem.1 h
  omega
/-- Where a word stands. -/
theorem rank_at {L : List (K M × Int)} (hs : Srt keyOf L) {a : Nat} (ha : a < L.length) {s : K M} (e : L[a].1 = s) : has s L = true ∧ rankOf s L = (a : Int) := by
  have hh : has s L = true := has_mem.2 (List.mem_map.2 ⟨L[a], List.getElem_mem _, e⟩)
  refine ⟨hh, ?_⟩
  unfold rankOf
  rw [if_pos hh]
  have hb := below_key s hs
  have h1 := mt (hb a ha).2 (by rw [e]; omega)
  have h2 : ¬ a + 1 ≤ below keyOf s L → below keyOf s L ≤ a := fun h => by omega
  rcases Nat.lt_trichotomy (below keyOf s L) a with h3 | h3 | h3
  · have h4 := mt (hb _ (by omega)).1 (Nat.lt_irrefl _)
    have h5 : keyOf (L[below keyOf s L]'(by omega)).1 < keyOf L[a].1 := List.pairwise_iff_getElem.1 hs _ _ (by omega) ha h3
    rw [e] at h5
    omega
  · rw [h3]
  · omega
theorem rank_none {L : List (K M × Int)} {s : K M} (h : ∀ j (hj : j < L.length), L[j].1 ≠ s) : has s L = false ∧ rankOf s L = 0 := by
  have hh : has s L = false := by
    rw [Bool.eq_false_iff]
    intro hc
    obtain ⟨p, hp, e⟩ := List.mem_map.1 (has_mem.1 hc)
    obtain ⟨j, hj, ej⟩ := List.getElem_of_mem hp
    exact h j hj (by rw [ej, e])
  exact ⟨hh, by unfold rankOf; rw [hh]; rfl⟩
theorem look_at' {L : List (K M × Int)} {i : Nat} (h : i < L.length) : look L (i : Int) = some L[i] := by
  unfold look; rw [if_pos (by omega)]; simp [h]
theorem look_out {L : List (K M × Int)} {i : Int} (h : i < 0 ∨ (L.length : Int) ≤ i) : look L i = none := by
  unfold look
  split
  · exact List.getElem?_eq_none (by omega)
  · rfl
abbrev Op2 := Int × ByteArray
/-- Operations that came in: kind, word. -/
def ParP (W : World) (p : Option Addr) (xs : List Op2) : Prop := ∀ j (hj : j < xs.length), ∃ b off, p = some ⟨b, off, none⟩ ∧ b < W.heap.size ∧
  W.cell? ⟨b, off + j * 2, none⟩ = some (.int .i64 xs[j].1) ∧ W.cell? ⟨b, off + j * 2 + 1, none⟩ = some (.string xs[j].2)
end Go.Proofs.Ythkggkndglbdkaa.S
