/- All ways by a queue, in plain. Nothing of the program. -/
import Derived.Test.YtcgceigcegddlaaPA
namespace Go.Proofs.Ytcgceigcegddlaa
open Go

theorem pcol_one {ts : List T} (hN : Nice ts) {tb : ByteArray} {c : C} (hc : c ∈ colsAt ts tb) : pcol ts tb [c.nm] = (c, tb, 0) := by
  obtain ⟨h1, h2⟩ := col_by (hN.cols tb).1 hc
  unfold pcol
  rw [if_pos h2, h1]; rfl
theorem pcol_cons (ts : List T) (tb x : ByteArray) (r : List ByteArray) : pcol ts tb (x :: r) = if hasC (colsAt ts tb) x = true then (if r.isEmpty = true then (orC (colOf (colsAt ts tb) x), tb, 0) else if eqS (orC (colOf (colsAt ts tb) x)).tgt e0 = true then (zeroC, e0, 9) else pcol ts (orC (colOf (colsAt ts tb) x)).tgt r) else (zeroC, e0, 3) := by rw [pcol]
theorem emp : ([] : List ByteArray).isEmpty = true := rfl
theorem pcol_snoc {ts : List T} (hN : Nice ts) : ∀ {q : List ByteArray} {tb : ByteArray} {c : C}, q ≠ [] → (pcol ts tb q).2.2 = 0 → c ∈ colsAt ts (pcol ts tb q).1.tgt → pcol ts tb (q ++ [c.nm]) = (c, (pcol ts tb q).1.tgt, 0)
  | [], _, _, h, _, _ => absurd rfl h
  | x :: r, tb, c, _, h, hc => by
    rw [List.cons_append, pcol_cons]
    rw [pcol_cons] at h hc ⊢
    by_cases hx : hasC (colsAt ts tb) x = true
    · rw [if_pos hx] at h hc ⊢
      rw [if_pos hx]
      cases r with
      | nil =>
        rw [if_pos emp] at hc ⊢
        have hne : ¬ eqS (orC (colOf (colsAt ts tb) x)).tgt e0 = true := fun e => by
          rw [eqS_iff] at e
          simp only [e, hN.noCols] at hc
          simp at hc
        rw [List.nil_append, if_neg (by simp), if_neg hne]
        exact pcol_one hN hc
      | cons y r =>
        have n1 : ¬ (y :: r ++ [c.nm]).isEmpty = true := by simp
        have n2 : ¬ (y :: r).isEmpty = true := by simp
        rw [if_neg n2] at h hc ⊢
        rw [if_neg n1]
        by_cases he : eqS (orC (colOf (colsAt ts tb) x)).tgt e0 = true
        · rw [if_pos he] at h; simp at h
        · rw [if_neg he] at h hc ⊢
          rw [if_neg he]
          exact pcol_snoc hN (q := y :: r) (by simp) h hc
    · rw [if_neg hx] at h; simp at h
theorem pcol_mem {ts : List T} : ∀ {q : List ByteArray} {tb : ByteArray}, (pcol ts tb q).2.2 = 0 → ∃ t, (pcol ts tb q).1 ∈ colsAt ts t
  | [], tb, h => by simp [pcol] at h
  | x :: r, tb, h => by
    unfold pcol at h ⊢
    by_cases hx : hasC (colsAt ts tb) x = true
    · rw [if_pos hx] at h ⊢
      obtain ⟨c, hc, _, ho⟩ := col_has hx
      cases r with
      | nil => rw [if_pos emp]; exact ⟨tb, by rw [ho]; exact hc⟩
      | cons y r =>
        rw [if_neg (by simp)] at h ⊢
        by_cases he : eqS (orC (colOf (colsAt ts tb) x)).tgt e0 = true
        · rw [if_pos he] at h; simp at h
        · rw [if_neg he] at h ⊢
          exact pcol_mem h
    · rw [if_neg hx] at h; simp at h
/-- Where a way leads. -/
def atT (ts : List T) (tb : ByteArray) (p : List ByteArray) : ByteArray := if p.isEmpty = true then tb else (pcol ts tb p).1.tgt
def desc (ts : List T) (tb : ByteArray) (p : List ByteArray) : List (List ByteArray) := waysP ts (4 - p.length) (atT ts tb p) p
def G (ts : List T) (tb : ByteArray) (p : List ByteArray) : List (List ByteArray) := p :: desc ts tb p
def F (ts : List T) (tb : ByteArray) (p : List ByteArray) : List (List ByteArray) := if p.isEmpty = true then desc ts tb p else p :: desc ts tb p
def OKp (ts : List T) (tb : ByteArray) (p : List ByteArray) : Prop := (p = [] ∨ (pcol ts tb p).2.2 = 0) ∧ p.length ≤ 4
def kidsP (ts : List T) (tb : ByteArray) (p : List ByteArray) : List (List ByteArray) := (colsAt ts (atT ts tb p)).map (fun c => p ++ [c.nm])
theorem pcol_kid {ts : List T} (hN : Nice ts) {tb : ByteArray} {p : List ByteArray} (h : OKp ts tb p) {c : C} (hc : c ∈ colsAt ts (atT ts tb p)) : (pcol ts tb (p ++ [c.nm])).1 = c ∧ (pcol ts tb (p ++ [c.nm])).2.2 = 0 := by
  unfold atT at hc
  by_cases hp : p = []
  · subst hp
    rw [if_pos emp] at hc
    rw [List.nil_append, pcol_one hN hc]
    exact ⟨rfl, rfl⟩
  · have hne : ¬ p.isEmpty = true := by rw [List.isEmpty_iff]; exact hp
    rw [if_neg hne] at hc
    rw [pcol_snoc hN hp (h.1.resolve_left hp) hc]
    exact ⟨rfl, rfl⟩
theorem kid_ok {ts : List T} (hN : Nice ts) {tb : ByteArray} {p : List ByteArray} (h : OKp ts tb p) (hl : p.length < 4) {q : List ByteArray} (hq : q ∈ kidsP ts tb p) : OKp ts tb q ∧ q ≠ [] := by
  obtain ⟨c, hc, rfl⟩ := List.mem_map.1 hq
  exact ⟨⟨.inr (pcol_kid hN h hc).2, by rw [List.length_append, List.length_cons, List.length_nil]; omega⟩, by simp⟩
theorem kid_F {ts : List T} {tb : ByteArray} {p q : List ByteArray} (hq : q ∈ kidsP ts tb p) : F ts tb q = G ts tb q := by
  obtain ⟨c, _, rfl⟩ := List.mem_map.1 hq
  unfold F G
  rw [if_neg (by simp)]
theorem flat_eq {α β : Type} {f g : α → List β} : ∀ (l : List α), (∀ x ∈ l, f x = g x) → l.flatMap f = l.flatMap g
  | [], _ => rfl
  | a :: r, h => by rw [List.flatMap_cons, List.flatMap_cons, h a (by simp), flat_eq r (fun x hx => h x (by simp [hx]))]
theorem desc_kids {ts : List T} (hN : Nice ts) {tb : ByteArray} {p : List ByteArray} (h : OKp ts tb p) (hl : p.length < 4) : desc ts tb p = (kidsP ts tb p).flatMap (G ts tb) := by
  obtain ⟨k, hk⟩ : ∃ k, 4 - p.length = k + 1 := ⟨3 - p.length, by omega⟩
  unfold desc kidsP
  rw [hk]
  unfold waysP
  rw [List.flatMap_map]
  refine flat_eq _ (fun c hc => ?_)
  unfold G desc
  have e : 4 - (p ++ [c.nm]).length = k := by rw [List.length_append, List.length_cons, List.length_nil]; omega
  have e2 : atT ts tb (p ++ [c.nm]) = c.tgt := by
    unfold atT
    rw [if_neg (by simp), (pcol_kid hN h hc).1]
  rw [e, e2]
theorem desc_none {ts : List T} (hN : Nice ts) {tb : ByteArray} {p : List ByteArray} (h : atT ts tb p = e0 ∨ 4 ≤ p.length) : desc ts tb p = [] := by
  unfold desc
  rcases h with h | h
  · rw [h]
    cases 4 - p.length with
    | zero => rfl
    | succ k => unfold waysP; rw [hN.noCols]; rfl
  · rw [show 4 - p.length = 0 by omega]; rfl
/-- How many rounds are left. -/
def work (ts : List T) (tb : ByteArray) (td : List (List ByteArray)) : Nat := (td.flatMap (G ts tb)).length
theorem work_le (ts : List T) (tb : ByteArray) : ∀ (td : List (List ByteArray)), td.length ≤ work ts tb td
  | [] => Nat.le_refl _
  | p :: r => by
    have := work_le ts tb r
    unfold work at this ⊢
    rw [List.flatMap_cons, List.length_append, List.length_cons]
    unfold G
    rw [List.length_cons]
    unfold G at this
    omega
theorem work_cons (ts : List T) (tb : ByteArray) (p : List ByteArray) (r : List (List ByteArray)) : work ts tb (p :: r) = 1 + (desc ts tb p).length + work ts tb r := by
  unfold work
  rw [List.flatMap_cons, List.length_append]
  unfold G
  rw [List.length_cons]; omega
theorem work_kids {ts : List T} (hN : Nice ts) {tb : ByteArray} {p : List ByteArray} (h : OKp ts tb p) (hl : p.length < 4) (r : List (List ByteArray)) : work ts tb (r ++ kidsP ts tb p) + 1 = work ts tb (p :: r) := by
  rw [work_cons, desc_kids hN h hl]
  unfold work
  rw [List.flatMap_append, List.length_append]; omega
/-- What the queue holds. -/
structure Qi (ts : List T) (tb : ByteArray) (out td : List (List ByteArray)) : Prop where
  all : (out ++ td.flatMap (F ts tb)).Perm (waysP ts 4 tb [])
  ok : ∀ p ∈ td, OKp ts tb p
theorem Qi.start (ts : List T) (tb : ByteArray) : Qi ts tb [] [[]] := by
  refine ⟨?_, fun p hp => ?_⟩
  · have e : ([] ++ [[]].flatMap (F ts tb)) = waysP ts 4 tb [] := by
      rw [List.flatMap_cons, List.flatMap_nil, List.append_nil, List.nil_append]
      rfl
    rw [e]
  · rw [List.mem_singleton] at hp
    subst hp
    exact ⟨.inl rfl, by simp⟩
theorem work_start {ts : List T} (hN : Nice ts) (tb : ByteArray) : work ts tb [[]] ≤ 1555 := by
  rw [work_cons]
  have h1 := ways_len hN 4 tb []
  have h2 : manyW 4 = 1554 := by decide
  have e : desc ts tb [] = waysP ts 4 tb [] := rfl
  have e2 : work ts tb [] = 0 := rfl
  rw [e, e2]; omega
section
variable {ts : List T} {tb : ByteArray} {out td : List (List ByteArray)} {p : List ByteArray}
def out1 (out : List (List ByteArray)) (p : List ByteArray) : List (List ByteArray) := if p.isEmpty = true then out else out ++ [p]
theorem Qi.next (hN : Nice ts) (h : Qi ts tb out (p :: td)) (hl : p.length < 4) : Qi ts tb (out1 out p) (td ++ kidsP ts tb p) := by
  have hp := h.ok p (by simp)
  have hd : (kidsP ts tb p).flatMap (F ts tb) = desc ts tb p := by
    rw [desc_kids hN hp hl]
    exact flat_eq _ (fun q hq => kid_F hq)
  refine ⟨?_, fun q hq => ?_⟩
  · refine List.Perm.trans ?_ h.all
    rw [List.flatMap_append, hd, List.flatMap_cons]
    have hx := List.perm_append_comm (l₁ := td.flatMap (F ts tb)) (l₂ := desc ts tb p)
    have hF : F ts tb p = if p.isEmpty = true then desc ts tb p else p :: desc ts tb p := rfl
    rw [hF]
    unfold out1
    by_cases he : p.isEmpty = true
    · rw [if_pos he, if_pos he]
      exact List.Perm.append_left _ hx
    · rw [if_neg he, if_neg he, List.append_assoc]
      exact List.Perm.append_left _ (List.Perm.cons p hx)
  · rcases List.mem_append.1 hq with hq | hq
    · exact h.ok q (by simp [hq])
    · exact (kid_ok hN hp hl hq).1
theorem Qi.skip (hN : Nice ts) (h : Qi ts tb out (p :: td)) (hl : atT ts tb p = e0 ∨ 4 ≤ p.length) : Qi ts tb (out1 out p) td := by
  refine ⟨?_, fun q hq => h.ok q (by simp [hq])⟩
  refine List.Perm.trans ?_ h.all
  rw [List.flatMap_cons]
  have hF : F ts tb p = if p.isEmpty = true then desc ts tb p else p :: desc ts tb p := rfl
  rw [hF, desc_none hN hl]
  unfold out1
  by_cases he : p.isEmpty = true
  · rw [if_pos he, if_pos he, List.nil_append]
  · rw [if_neg he, if_neg he, List.append_assoc]
theorem Qi.done (h : Qi ts tb out []) : out.Perm (waysP ts 4 tb []) := by
  have := h.all
  rwa [List.flatMap_nil, List.append_nil] at this
/-- Where a way that is to go on leads, there is a table. -/
theorem Qi.found (hN : Nice ts) (h0 : ∃ u, findT ts tb = some u) (h : OKp ts tb p) (hne : eqS (atT ts tb p) e0 = false) : ∃ u, findT ts (atT ts tb p) = some u := by
  by_cases hp : p = []
  · subst hp; exact h0
  · have hne2 : ¬ p.isEmpty = true := by rw [List.isEmpty_iff]; exact hp
    unfold atT at hne ⊢
    rw [if_neg hne2] at hne ⊢
    obtain ⟨t, ht⟩ := pcol_mem (h.1.resolve_left hp)
    rcases (hN.cols t).2.2 _ ht with e | e
    · rw [e, eqS_self] at hne; cases hne
    · exact e
end
end Go.Proofs.Ytcgceigcegddlaa
