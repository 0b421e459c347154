/-  -/
import Derived.Test.YtffpmmphpdkkbaaGreatMCJ
namespace Go.Proofs.YtffpmmphpdkkbaaGreat.Co
open Go Go.Proofs

theorem cb_cases : ∀ a b : List UInt8, (Lib.compareBytes a b = -1 ∧ Op.bytesLess a b = true ∧ a ≠ b) ∨ (Lib.compareBytes a b = 0 ∧ a = b ∧ Op.bytesLess a b = false) ∨ (Lib.compareBytes a b = 1 ∧ Op.bytesLess a b = false ∧ a ≠ b)
  | [], [] => by simp [Lib.compareBytes, Op.bytesLess]
  | [], _ :: _ => by simp [Lib.compareBytes, Op.bytesLess]
  | _ :: _, [] => by simp [Lib.compareBytes, Op.bytesLess]
  | a :: x, b :: y => by
    have ih := cb_cases x y
    unfold Lib.compareBytes Op.bytesLess
    by_cases h1 : a < b
    · have hne : a ≠ b := fun e => by subst e; exact absurd h1 (UInt8.lt_irrefl _)
      simp [h1, hne]
    · by_cases h2 : b < a
      · have hne : a ≠ b := fun e => by subst e; exact absurd h2 (UInt8.lt_irrefl _)
        simp [h1, h2, hne]
      · have he : a = b := by
          have h3 : ¬ a.toNat < b.toNat := h1
          have h4 : ¬ b.toNat < a.toNat := h2
          exact UInt8.toNat_inj.1 (by omega)
        subst he
        simp only [h1, if_false, BEq.rfl, Bool.true_and, decide_false, Bool.false_or, List.cons.injEq, true_and, ne_eq]
        exact ih
section
variable {M : Nat}
theorem str_lt (a b : K M) : Op.bytesLess a.1.toList b.1.toList = decide (keyOf a < keyOf b) := by
  have h := keyOf_cmp a b
  rw [ByteArray.toList_eq, ByteArray.toList_eq]
  rcases cb_cases a.1.data.toList b.1.data.toList with ⟨h1, h2, _⟩ | ⟨h1, _, h2⟩ | ⟨h1, h2, _⟩
  · rw [h2]; rw [h1] at h; have := cmp3_neg.1 (show cmp3 (keyOf a) (keyOf b) < 0 by omega); simp [this]
  · rw [h2]; rw [h1] at h; have := cmp3_zero.1 h.symm; simp [this]
  · rw [h2]; rw [h1] at h; have := cmp3_pos.1 (show 0 < cmp3 (keyOf a) (keyOf b) by omega); simp; omega
theorem key_ext {a b : K M} (h : keyOf a = keyOf b) : a = b := Subtype.ext (keyOf_inj.1 h)
theorem str_eq (a b : K M) : (a.1.toList == b.1.toList) = decide (keyOf a = keyOf b) := by
  rw [Bool.eq_iff_iff]
  simp only [beq_iff_eq, decide_eq_true_eq]
  constructor
  · intro h
    have : a.1 = b.1 := by
      rw [ByteArray.toList_eq, ByteArray.toList_eq] at h
      obtain ⟨⟨⟨x⟩⟩, _⟩ := a
      obtain ⟨⟨⟨y⟩⟩, _⟩ := b
      simp at h
      simp [h]
    exact keyOf_inj.2 this
  · intro h
    rw [keyOf_inj.1 h]
def SrtK (l : List (K M)) : Prop := l.Pairwise (fun a b => keyOf a < keyOf b)
/-- Two lists in order with the same words are one. -/
theorem sorted_ext : ∀ {l m : List (K M)}, SrtK l → SrtK m → (∀ s, s ∈ l ↔ s ∈ m) → l = m
  | [], [], _, _, _ => rfl
  | [], b :: m, _, _, h => by have := (h b).2 (by simp); simp at this
  | a :: l, [], _, _, h => by have := (h a).1 (by simp); simp at this
  | a :: l, b :: m, h1, h2, h => by
    unfold SrtK at h1 h2
    rw [List.pairwise_cons] at h1 h2
    have hab : a = b := by
      rcases List.mem_cons.1 ((h a).1 (by simp)) with e | e
      · exact e
      · rcases List.mem_cons.1 ((h b).2 (by simp)) with e' | e'
        · exact e'.symm
        · have := h2.1 a e
          have := h1.1 b e'
          omega
    subst hab
    congr 1
    refine sorted_ext h1.2 h2.2 (fun s => ?_)
    have hs := h s
    rw [List.mem_cons, List.mem_cons] at hs
    constructor
    · intro hm
      rcases hs.1 (.inr hm) with e | e
      · subst e; have := h1.1 s hm; omega
      · exact e
    · intro hm
      rcases hs.2 (.inr hm) with e | e
      · subst e; have := h2.1 s hm; omega
      · exact e
abbrev keys (L : List (K M × Int)) : List (K M) := L.map Prod.fst
theorem keys_srt {L : List (K M × Int)} (h : Srt keyOf L) : SrtK (keys L) := by
  unfold SrtK
  rw [List.pairwise_map]
  exact h
namespace S
theorem has_mem {s : K M} : ∀ {L : List (K M × Int)}, has s L = true ↔ s ∈ keys L
  | [] => by simp [has, getL]
  | (a, w) :: r => by
    have ih := has_mem (s := s) (L := r)
    unfold has at ih ⊢
    rw [getL]
    by_cases h : keyOf a = keyOf s
    · rw [if_pos h, key_ext h]; simp
    · have hn : s ≠ a := fun e => h (by rw [e])
      rw [if_neg h, ih]; simp [hn]
theorem tm_cons (s a : K M) (w : Int) (r : List (K M × Int)) : tm s ((a, w) :: r) = if a = s then w else tm s r := by
  unfold tm
  rw [getL]
  by_cases h : keyOf a = keyOf s
  · rw [if_pos h, if_pos (key_ext h)]; rfl
  · have hn : a ≠ s := fun e => h (by rw [e])
    rw [if_neg h, if_neg hn]
theorem tm_above {s : K M} : ∀ {L : List (K M × Int)}, (∀ p ∈ L, keyOf s < keyOf p.1) → tm s L = 0
  | [], _ => rfl
  | (a, w) :: r, h => by
    have h1 : keyOf s < keyOf a := h (a, w) (by simp)
    rw [tm_cons, if_neg (fun e => by rw [e] at h1; omega), tm_above (fun p hp => h p (by simp [hp]))]
theorem tm_ins (s : K M) (v : Int) (t : K M) : ∀ {L : List (K M × Int)}, Srt keyOf L → tm t (insL keyOf s v L) = if s = t then v else tm t L
  | [], _ => by rw [insL, tm_cons, tm_nil]
  | (a, w) :: r, h => by
    unfold Srt at h
    rw [List.pairwise_cons] at h
    have ih := tm_ins s v t h.2
    rw [insL]
    by_cases h1 : keyOf s < keyOf a
    · rw [if_pos h1, tm_cons]
    · by_cases h2 : keyOf a < keyOf s
      · rw [if_neg h1, if_pos h2, tm_cons, ih, tm_cons]
        by_cases h3 : a = t
        · have : ¬ s = t := fun e => by rw [← h3] at e; rw [e] at h2; omega
          rw [if_pos h3, if_neg this, if_pos h3]
        · rw [if_neg h3]
          by_cases h4 : s = t
          · rw [if_pos h4, if_pos h4]
          · rw [if_neg h4, if_neg h4, if_neg h3]
      · have he : a = s := key_ext (by omega)
        subst he
        rw [if_neg h1, if_neg h2, tm_cons, tm_cons]
        by_cases h3 : a = t
        · rw [if_pos h3, if_pos h3]
        · rw [if_neg h3, if_neg h3, if_neg h3]
theorem tm_del (s t : K M) : ∀ {L : List (K M × Int)}, Srt keyOf L → tm t (delL keyOf s L) = if s = t then 0 else tm t L
  | [], _ => by rw [delL, tm_nil]; split <;> rfl
  | (a, w) :: r, h => by
    unfold Srt at h
    rw [List.pairwise_cons] at h
    have ih := tm_del s t h.2
    rw [delL]
    by_cases h1 : keyOf a = keyOf s
    · have he : a = s := key_ext h1
      subst he
      rw [if_pos h1, tm_cons]
      by_cases h3 : a = t
      · subst h3
        rw [if_pos rfl]
        exact tm_above (fun p hp => h.1 p hp)
      · rw [if_neg h3, if_neg h3]
    · rw [if_neg h1, tm_cons, ih, tm_cons]
      by_cases h3 : a = t
      · have : ¬ s = t := fun e => h1 (by rw [h3, e])
        rw [if_pos h3, if_neg this, if_pos h3]
      · rw [if_neg h3, if_neg h3]
def cnt (s : K M) (l : List (K M)) : Nat := (l.filter (fun t => decide (t = s))).length
theorem cnt_app (s : K M) (l m : List (K M)) : cnt s (l ++ m) = cnt s l + cnt s m := by unfold cnt; rw [List.filter_append, List.length_append]
theorem cnt_one (s t : K M) : cnt s [t] = if t = s then 1 else 0 := by unfold cnt; by_cases h : t = s <;> simp [h]
theorem cnt_mem {s : K M} {l : List (K M)} : 1 ≤ cnt s l ↔ s ∈ l := by
  unfold cnt
  rw [Nat.succ_le_iff, List.length_pos_iff_exists_mem]
  constructor
  · rintro ⟨t, ht⟩
    rw [List.mem_filter] at ht
    have := of_decide_eq_true ht.2
    subst this
    exact ht.1
  · intro h
    exact ⟨s, List.mem_filter.2 ⟨h, by simp⟩⟩
theorem cnt_le (s : K M) (l : List (K M)) : cnt s l ≤ l.length := List.length_filter_le _ _
/-- The Dict holds the words of l, each so many times. -/
def Cnt (l : List (K M)) (L : List (K M × Int)) : Prop := ∀ s, tm s L = (cnt s l : Int)
theorem Cnt.add {l : List (K M)} {L : List (K M × Int)} (h : Cnt l L) (hs : Srt keyOf L) (s : K M) : Cnt (l ++ [s]) (insL keyOf s (tm s L + 1) L) := fun t => by
  rw [tm_ins s _ t hs, h s, h t, cnt_app, cnt_one]
  by_cases e : s = t
  · subst e; simp
  · rw [if_neg e, if_neg e]; rfl
theorem Dm.srt {W0 W : World} {mb : Nat} {L : List (K M × Int)} (h : Dm W0 mb L W) : Srt keyOf L := by obtain ⟨cv, h1, _⟩ := h.mp; exact h1.srt
theorem Cnt.mem {W0 W : World} {mb : Nat} {l : List (K M)} {L : List (K M × Int)} (h : Cnt l L) (hd : Dm W0 mb L W) (s : K M) : s ∈ keys L ↔ s ∈ l := by
  rw [← has_mem, (hd.tm_bd s).2.2, h s, ← cnt_mem]
  omega
theorem Cnt.has {W0 W : World} {mb : Nat} {l : List (K M)} {L : List (K M × Int)} (h : Cnt l L) (hd : Dm W0 mb L W) (s : K M) : has s L = true ↔ s ∈ l := by
  rw [has_mem, h.mem hd]
theorem ins_len_le (s : K M) (v : Int) : ∀ {L : List (K M × Int)}, Srt keyOf L → (insL keyOf s v L).length ≤ L.length + 1 := fun {L} h => by
  have := insL_len (v := v) (k := s) h
  split at this <;> omega
theorem take_srt (s : K M) {L : List (K M × Int)} (h : Srt keyOf L) : Srt keyOf (takeL s L) := by
  unfold takeL; split
  · exact h.ins
  · exact h.del
theorem tm_take (s t : K M) {L : List (K M × Int)} (h : Srt keyOf L) (hp : 0 ≤ tm s L) : tm t (takeL s L) = if s = t then (if 1 ≤ tm s L then tm s L - 1 else 0) else tm t L := by
  unfold takeL
  by_cases h1 : 1 < tm s L
  · rw [if_pos h1, tm_ins s _ t h]
    by_cases e : s = t
    · rw [if_pos e, if_pos e, if_pos (by omega)]
    · rw [if_neg e, if_neg e]
  · rw [if_neg h1, tm_del s t h]
    by_cases e : s = t
    · rw [if_pos e, if_pos e]; split <;> omega
    · rw [if_neg e, if_neg e]
theorem take_len_le (s : K M) {L : List (K M × Int)} (h : Srt keyOf L) : (takeL s L).length ≤ L.length := by
  unfold takeL
  split
  · rename_i h1
    have := insL_len (v := tm s L - 1) (k := s) h
    have hs : (getL keyOf s L).isSome = true := by
      unfold tm at h1
      cases hg : getL keyOf s L with
      | none => rw [hg] at h1; simp at h1
      | some v => rfl
    rw [if_pos hs] at this
    omega
  · have := delL_len (key := keyOf) (k := s) (L := L)
    omega
theorem Dm.ty {W0 W : World} {mb : Nat} {L : List (K M × Int)} (h : Dm W0 mb L W) : Ty W mb := by obtain ⟨cv, h1, _⟩ := h.mp; exact h1.ty
theorem Tr.of_nodes {W W' : World} {B : Nat} (hb : ∀ (b : Nat) (cs : Array Value), W.heap[b]? = some (Obj.cells cs 164) → W'.heap[b]? = W.heap[b]?) : ∀ {t : T (K M) Int} {p : Option Addr}, Tr W B t p → Tr W' B t p
  | .nil, _, h => h
  | .nd _ _ _ _, _, ⟨b, lp, rp, h1, h2, h3, h4, h5⟩ => ⟨b, lp, rp, h1, h2, (hb b _ h3).trans h3, Tr.of_nodes hb h4, Tr.of_nodes hb h5⟩
end S
end
end Go.Proofs.YtffpmmphpdkkbaaGreat.Co
