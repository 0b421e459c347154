/- What determines what, in plain words. -/
import Derived.Test.YtmfkkpogmmoflaaGreatPA
namespace Go.Proofs.YtmfkkpogmmoflaaGreat
open Go Go.RowKit Go.Proofs

def inP (ps : List (List ByteArray)) (p : List ByteArray) : Bool := ps.any (fun q => decide (cmpP q p = 0))
theorem inP_iff {ps : List (List ByteArray)} {p : List ByteArray} : inP ps p = true ↔ p ∈ ps := by
  unfold inP
  rw [List.any_eq_true]
  constructor
  · rintro ⟨q, hq, h⟩
    rw [decide_eq_true_iff, cmpP_zero] at h
    exact h ▸ hq
  · intro h
    exact ⟨p, h, by rw [decide_eq_true_iff]; exact cmpP_self p⟩
theorem inP_no {ps : List (List ByteArray)} {p : List ByteArray} : inP ps p = false ↔ p ∉ ps := by
  rw [← inP_iff, Bool.not_eq_true]

/-! ### Where a way leads -/
def lead (ts : List T) : ByteArray → List ByteArray → Option ByteArray
  | tb, [] => some tb
  | tb, x :: r => if hasC (colsAt ts tb) x = true then (if eqS (orC (colOf (colsAt ts tb) x)).tgt e0 = true then none else lead ts (orC (colOf (colsAt ts tb) x)).tgt r) else none
theorem pcol_is {ts : List T} : ∀ {a : List ByteArray} {tb u x : ByteArray}, lead ts tb a = some u → hasC (colsAt ts u) x = true → pcol ts tb (a ++ [x]) = (orC (colOf (colsAt ts u) x), u, 0)
  | [], tb, u, x, h, hx => by
    obtain rfl : tb = u := by simpa [lead] using h
    rw [List.nil_append, pcol, if_pos hx]
    rfl
  | y :: r, tb, u, x, h, hx => by
    rw [lead] at h
    rw [List.cons_append, pcol]
    split at h
    · rename_i h1
      split at h
      · cases h
      · rename_i h2
        rw [if_pos h1, if_neg h2, if_neg (by simp)]
        exact pcol_is h hx
    · cases h
theorem pcol_ok {ts : List T} : ∀ {a : List ByteArray} {tb x : ByteArray}, (pcol ts tb (a ++ [x])).2.2 = 0 → ∃ u, lead ts tb a = some u ∧ hasC (colsAt ts u) x = true
  | [], tb, x, h => by
    rw [List.nil_append, pcol] at h
    split at h
    · rename_i h1
      exact ⟨tb, rfl, h1⟩
    · simp at h
  | y :: r, tb, x, h => by
    rw [List.cons_append, pcol] at h
    split at h
    · rename_i h1
      rw [if_neg (by simp)] at h
      split at h
      · simp at h
      · rename_i h2
        obtain ⟨u, g1, g2⟩ := pcol_ok h
        refine ⟨u, ?_, g2⟩
        rw [lead, if_pos h1, if_neg h2]
        exact g1
    · simp at h
theorem lead_snoc {ts : List T} : ∀ {a : List ByteArray} {tb x v : ByteArray}, lead ts tb (a ++ [x]) = some v ↔ ∃ u, lead ts tb a = some u ∧ hasC (colsAt ts u) x = true ∧ eqS (orC (colOf (colsAt ts u) x)).tgt e0 = false ∧ (orC (colOf (colsAt ts u) x)).tgt = v
  | [], tb, x, v => by
    rw [List.nil_append, lead.eq_2]
    constructor
    · intro h
      split at h
      · rename_i h1
        split at h
        · cases h
        · rename_i h2
          exact ⟨tb, rfl, h1, by simpa using h2, by simpa [lead] using h⟩
      · cases h
    · rintro ⟨u, h0, h1, h2, h3⟩
      obtain rfl : tb = u := by simpa [lead] using h0
      rw [if_pos h1, if_neg (by rw [h2]; decide), h3]
      rfl
  | y :: r, tb, x, v => by
    rw [List.cons_append, lead, lead]
    split
    · split
      · simp
      · exact lead_snoc
    · simp
/-- A way of the table. -/
def Ok (ts : List T) (tb : ByteArray) (p : List ByteArray) : Prop := (pcolL ts tb p).2.2 = 0
theorem Ok.len {ts : List T} {tb : ByteArray} {p : List ByteArray} (h : Ok ts tb p) : 1 ≤ p.length ∧ p.length ≤ 4 := by
  unfold Ok pcolL at h
  split at h
  · simp at h
  · omega
theorem ok_snoc {ts : List T} {tb : ByteArray} {a : List ByteArray} {x : ByteArray} : Ok ts tb (a ++ [x]) ↔ a.length ≤ 3 ∧ ∃ u, lead ts tb a = some u ∧ hasC (colsAt ts u) x = true := by
  constructor
  · intro h
    have hl := h.len
    rw [List.length_append, List.length_singleton] at hl
    refine ⟨by omega, ?_⟩
    unfold Ok pcolL at h
    rw [if_neg (by rw [List.length_append, List.length_singleton]; omega)] at h
    exact pcol_ok h
  · rintro ⟨hl, u, h1, h2⟩
    unfold Ok pcolL
    rw [if_neg (by rw [List.length_append, List.length_singleton]; omega), pcol_is h1 h2]
theorem okL {ts : List T} {tb : ByteArray} {a : List ByteArray} {x u : ByteArray} (hl : a.length ≤ 3) (h1 : lead ts tb a = some u) (h2 : hasC (colsAt ts u) x = true) : pcolL ts tb (a ++ [x]) = (orC (colOf (colsAt ts u) x), u, 0) := by
  unfold pcolL
  rw [if_neg (by rw [List.length_append, List.length_singleton]; omega), pcol_is h1 h2]
theorem snoc_of {p : List ByteArray} (h : 1 ≤ p.length) : ∃ a x, p = a ++ [x] ∧ p.dropLast = a := by
  have hne : p ≠ [] := by intro e; rw [e] at h; exact absurd h (by decide)
  exact ⟨p.dropLast, p.getLast hne, (List.dropLast_concat_getLast hne).symm, rfl⟩
theorem tab_of {ts : List T} {u x : ByteArray} (h : hasC (colsAt ts u) x = true) : ∃ t, findT ts u = some t ∧ colsAt ts u = t.cols := by
  unfold colsAt at h ⊢
  cases hf : findT ts u with
  | none => rw [hf] at h; simp [orT, zeroT, hasC] at h
  | some t => exact ⟨t, rfl, rfl⟩

/-! ### Tables whose deps may be -/
structure Fine (ts : List T) : Prop where
  nice : Nice ts
  inv : Inv ts
  deps : ∀ t ∈ ts, ∀ d ∈ t.deps, 1 ≤ d.left.length ∧ d.left.length ≤ 3 ∧ (∀ l ∈ d.left, hasC t.cols l = true) ∧ hasC t.cols d.right = true
  must : ∀ t ∈ ts, ∀ c ∈ t.cols, eqS c.nm t.key = true → c.mu = true
theorem depsGood_mem {l : List C} {ds : List D} (h : depsGood l ds = true) : ∀ d ∈ ds, depGood l d = true := by
  intro d hd
  obtain ⟨j, hj, rfl⟩ := List.getElem_of_mem hd
  unfold depsGood at h
  rw [List.all_eq_true] at h
  have := h j (List.mem_range.2 hj)
  unfold depAt at this
  rw [List.getElem?_eq_getElem hj] at this
  exact this
theorem leftGood_mem {l : List C} {left : List ByteArray} (h : leftGood l left = true) : 1 ≤ left.length ∧ left.length ≤ 3 ∧ ∀ x ∈ left, hasC l x = true := by
  unfold leftGood at h
  simp only [Bool.and_eq_true, decide_eq_true_eq] at h
  refine ⟨h.1.1, h.1.2, fun x hx => ?_⟩
  obtain ⟨j, hj, rfl⟩ := List.getElem_of_mem hx
  have := h.2
  rw [List.all_eq_true] at this
  have := this j (List.mem_range.2 hj)
  unfold leftAt at this
  rw [List.getElem?_eq_getElem hj] at this
  simp only [Bool.and_eq_true] at this
  exact this.1
theorem Fine.nil : Fine [] := ⟨Nice.nil, nil_inv, by simp, by simp⟩
theorem Fine.add {ts : List T} (h : Fine ts) (t : T) : Fine (addT ts t) := by
  refine ⟨h.nice.add t, h.inv.add t, ?_, ?_⟩
  · unfold addT
    split
    · rename_i h0
      obtain ⟨h1, h2, _, h4⟩ := mayP_zero h0
      unfold namesGood at h2
      simp only [Bool.and_eq_true] at h2
      intro u hu d hd
      rw [List.mem_append, List.mem_singleton] at hu
      rcases hu with hu | rfl
      · exact h.deps u hu d hd
      · have hg := depsGood_mem h2.2.2.2 d hd
        unfold depGood at hg
        simp only [Bool.and_eq_true] at hg
        obtain ⟨a1, a2, a3⟩ := leftGood_mem hg.1
        have e : (formT t).cols = t.cols.map (formC t.key) := rfl
        rw [e]
        exact ⟨a1, a2, fun l hl => by rw [hasC_form]; exact a3 l hl, by rw [hasC_form]; exact hg.2.1⟩
    · exact h.deps
  · unfold addT
    split
    · intro u hu c hc hk
      rw [List.mem_append, List.mem_singleton] at hu
      rcases hu with hu | rfl
      · exact h.must u hu c hc hk
      · obtain ⟨c', hc', rfl⟩ := List.mem_map.1 hc
        have : eqS c'.nm t.key = true := hk
        show (c'.mu || eqS c'.nm t.key) = true
        rw [this, Bool.or_true]
    · exact h.must
theorem Fine.kept : ∀ {l ts : List T}, Fine ts → Fine (l.foldl addT ts)
  | [], _, hf => hf
  | t :: r, _, hf => Fine.kept (l := r) (hf.add t)
theorem Fine.find {ts : List T} (_ : Fine ts) {x : ByteArray} {t : T} (hf : findT ts x = some t) : t ∈ ts ∧ t.nm = x ∧ findT ts t.nm = some t := by
  have hm := List.mem_of_find?_eq_some hf
  have hx := List.find?_some hf
  unfold isT at hx
  have e : t.nm = x := eqS_iff.1 hx
  exact ⟨hm, e, by rw [e]; exact hf⟩

/-! ### The rules -/
def mustC (t : T) (l : ByteArray) : Bool := (orC (colOf t.cols l)).mu
inductive Cl (ts : List T) (tb : ByteArray) (F : List ByteArray → Prop) : List ByteArray → Prop
  | base {p : List ByteArray} : Ok ts tb p → F p → Cl ts tb F p
  | down {h : List ByteArray} {x : ByteArray} : Cl ts tb F h → Ok ts tb (h ++ [x]) → Cl ts tb F (h ++ [x])
  | up {h : List ByteArray} {u : ByteArray} {t : T} : lead ts tb h = some u → findT ts u = some t → Cl ts tb F (h ++ [t.key]) → Ok ts tb h → Cl ts tb F h
  | key {t : T} {x : ByteArray} : findT ts tb = some t → Cl ts tb F [t.key] → Ok ts tb [x] → Cl ts tb F [x]
  | dep {h : List ByteArray} {u : ByteArray} {t : T} {d : D} : lead ts tb h = some u → findT ts u = some t → d ∈ t.deps → (∀ l ∈ d.left, mustC t l = true) → (∀ l ∈ d.left, Cl ts tb F (h ++ [l])) → Ok ts tb (h ++ [d.right]) → Cl ts tb F (h ++ [d.right])
theorem Cl.ok {ts : List T} {tb : ByteArray} {F : List ByteArray → Prop} {p : List ByteArray} (h : Cl ts tb F p) : Ok ts tb p := by
  cases h <;> assumption
theorem Cl.mono {ts : List T} {tb : ByteArray} {F G : List ByteArray → Prop} (hFG : ∀ p, F p → G p) {p : List ByteArray} (h : Cl ts tb F p) : Cl ts tb G p := by
  induction h with
  | base h1 h2 => exact .base h1 (hFG _ h2)
  | down _ h2 ih => exact .down ih h2
  | up h1 h2 _ h4 ih => exact .up h1 h2 ih h4
  | key h1 _ h3 ih => exact .key h1 ih h3
  | dep h1 h2 h3 h4 _ h6 ih => exact .dep h1 h2 h3 h4 ih h6
theorem Cl.again {ts : List T} {tb : ByteArray} {F G : List ByteArray → Prop} (hG : ∀ p, G p → Cl ts tb F p) {p : List ByteArray} (h : Cl ts tb G p) : Cl ts tb F p := by
  induction h with
  | base _ h2 => exact hG _ h2
  | down _ h2 ih => exact .down ih h2
  | up h1 h2 _ h4 ih => exact .up h1 h2 ih h4
  | key h1 _ h3 ih => exact .key h1 ih h3
  | dep h1 h2 h3 h4 _ h6 ih => exact .dep h1 h2 h3 h4 ih h6

/-! ### As the program finds them -/
def addW (qs ss : List (List ByteArray)) (p : List ByteArray) : List (List ByteArray) := if inP qs p = true ∧ inP ss p = false then ss ++ [p] else ss
def addsW (qs ss ps : List (List ByteArray)) : List (List ByteArray) := ps.foldl (addW qs) ss
def colsW (qs ss : List (List ByteArray)) (a : List ByteArray) (cs : List C) : List (List ByteArray) := addsW qs ss (cs.map fun c => a ++ [c.nm])
def keyedW (qs ss : List (List ByteArray)) (a : List ByteArray) (t : T) : List (List ByteArray) := if a.length = 0 then colsW qs ss a t.cols else addW qs ss a
def mustP (ts : List T) (t : T) (l : ByteArray) : Bool := (orC (colOf (orT (findT ts t.nm)).cols l)).mu
def holdsP (ts : List T) (t : T) (ss : List (List ByteArray)) (a : List ByteArray) (left : List ByteArray) : Bool := left.all fun l => mustP ts t l && inP ss (a ++ [l])
def depW (ts : List T) (t : T) (qs : List (List ByteArray)) (a : List ByteArray) (ss : List (List ByteArray)) (d : D) : List (List ByteArray) := if holdsP ts t ss a d.left = true then addW qs ss (a ++ [d.right]) else ss
def depsW (ts : List T) (t : T) (qs : List (List ByteArray)) (a : List ByteArray) (ss : List (List ByteArray)) (ds : List D) : List (List ByteArray) := ds.foldl (depW ts t qs a) ss
def refW (ts : List T) (tb : ByteArray) (qs ss : List (List ByteArray)) (p : List ByteArray) : List (List ByteArray) := if hasT ts (pcolL ts tb p).1.tgt = true then colsW qs ss p (orT (findT ts (pcolL ts tb p).1.tgt)).cols else ss
def keyW (ts : List T) (tb : ByteArray) (qs ss : List (List ByteArray)) (p : List ByteArray) : List (List ByteArray) := if eqS (pcolL ts tb p).1.nm (orT (findT ts (pcolL ts tb p).2.1)).key = true then keyedW qs ss p.dropLast (orT (findT ts (pcolL ts tb p).2.1)) else ss
def followW (ts : List T) (tb : ByteArray) (qs ss : List (List ByteArray)) (p : List ByteArray) : List (List ByteArray) := depsW ts (orT (findT ts (pcolL ts tb p).2.1)) qs p.dropLast (keyW ts tb qs (refW ts tb qs ss p) p) (orT (findT ts (pcolL ts tb p).2.1)).deps

section
variable {qs ss ps : List (List ByteArray)} {p x a : List ByteArray}
theorem addW_pre : ss <+: addW qs ss p := by
  unfold addW; split
  · exact List.prefix_append _ _
  · exact List.prefix_refl _
theorem addW_mem (h : p ∈ qs) : p ∈ addW qs ss p := by
  unfold addW; split
  · simp
  · rename_i h1
    have h2 := inP_iff.2 h
    by_cases h3 : p ∈ ss
    · exact h3
    · exact absurd ⟨h2, inP_no.2 h3⟩ h1
theorem addW_of (h : x ∈ addW qs ss p) : x ∈ ss ∨ (x = p ∧ p ∈ qs) := by
  unfold addW at h; split at h
  · rename_i h1
    rw [List.mem_append, List.mem_singleton] at h
    exact h.imp id (fun e => ⟨e, inP_iff.1 h1.1⟩)
  · exact .inl h
theorem addW_nodup (h : ss.Nodup) : (addW qs ss p).Nodup := by
  unfold addW; split
  · rename_i h1
    have h2 := inP_no.1 h1.2
    rw [List.nodup_append]
    refine ⟨h, by simp, fun a ha b hb => ?_⟩
    rw [List.mem_singleton] at hb
    subst hb
    intro e; subst e; exact h2 ha
  · exact h
theorem addsW_pre : ∀ {ps ss : List (List ByteArray)}, ss <+: addsW qs ss ps
  | [], _ => List.prefix_refl _
  | _ :: _, _ => addW_pre.trans addsW_pre
theorem addsW_mem : ∀ {ps ss : List (List ByteArray)}, p ∈ ps → p ∈ qs → p ∈ addsW qs ss ps
  | q :: r, ss, h, hq => by
    rcases List.mem_cons.1 h with rfl | h
    · exact (addsW_pre (qs := qs) (ps := r)).subset (addW_mem hq)
    · exact addsW_mem (ps := r) h hq
theorem addsW_of : ∀ {ps ss : List (List ByteArray)}, x ∈ addsW qs ss ps → x ∈ ss ∨ (x ∈ ps ∧ x ∈ qs)
  | [], _, h => .inl h
  | q :: r, ss, h => by
    rcases addsW_of (ps := r) h with h | h
    · rcases addW_of h with h | ⟨rfl, h⟩
      · exact .inl h
      · exact .inr ⟨by simp, h⟩
    · exact .inr ⟨by simp [h.1], h.2⟩
theorem addsW_nodup : ∀ {ps ss : List (List ByteArray)}, ss.Nodup → (addsW qs ss ps).Nodup
  | [], _, h => h
  | _ :: r, _, h => addsW_nodup (ps := r) (addW_nodup h)
theorem colsW_mem {cs : List C} {y : ByteArray} (hc : hasC cs y = true) (hq : a ++ [y] ∈ qs) : a ++ [y] ∈ colsW qs ss a cs := by
  obtain ⟨c, hc, e, _⟩ := col_has hc
  exact addsW_mem (List.mem_map.2 ⟨c, hc, by rw [e]⟩) hq
theorem colsW_of {cs : List C} (h : x ∈ colsW qs ss a cs) : x ∈ ss ∨ (∃ y, x = a ++ [y]) ∧ x ∈ qs := by
  rcases addsW_of h with h | ⟨h, hq⟩
  · exact .inl h
  · obtain ⟨c, _, e⟩ := List.mem_map.1 h
    exact .inr ⟨⟨_, e.symm⟩, hq⟩
variable {ts : List T} {tb : ByteArray} {t : T}
theorem depW_pre {d : D} : ss <+: depW ts t qs a ss d := by
  unfold depW; split
  · exact addW_pre
  · exact List.prefix_refl _
theorem depsW_pre : ∀ {ds : List D} {ss : List (List ByteArray)}, ss <+: depsW ts t qs a ss ds
  | [], _ => List.prefix_refl _
  | _ :: _, _ => depW_pre.trans depsW_pre
theorem depsW_nodup : ∀ {ds : List D} {ss : List (List ByteArray)}, ss.Nodup → (depsW ts t qs a ss ds).Nodup
  | [], _, h => h
  | d :: r, ss, h => depsW_nodup (ds := r) (by
    show (depW ts t qs a ss d).Nodup
    unfold depW; split
    · exact addW_nodup h
    · exact h)
theorem holdsP_mono {ss' : List (List ByteArray)} {left : List ByteArray} (hs : ss <+: ss') (h : holdsP ts t ss a left = true) : holdsP ts t ss' a left = true := by
  unfold holdsP at h ⊢
  rw [List.all_eq_true] at h ⊢
  intro l hl
  have := h l hl
  rw [Bool.and_eq_true] at this ⊢
  exact ⟨this.1, inP_iff.2 (hs.subset (inP_iff.1 this.2))⟩
theorem depsW_mem : ∀ {ds : List D} {ss : List (List ByteArray)} {d : D}, d ∈ ds → holdsP ts t ss a d.left = true → a ++ [d.right] ∈ qs → a ++ [d.right] ∈ depsW ts t qs a ss ds
  | e :: r, ss, d, h, hh, hq => by
    rcases List.mem_cons.1 h with rfl | h
    · refine (depsW_pre (ds := r)).subset ?_
      unfold depW
      rw [if_pos hh]
      exact addW_mem hq
    · exact depsW_mem (ds := r) h (holdsP_mono depW_pre hh) hq
theorem depsW_all {P : List ByteArray → Prop} : ∀ {ds : List D} {ss : List (List ByteArray)}, (∀ d ∈ ds, ∀ s : List (List ByteArray), (∀ x ∈ s, P x) → holdsP ts t s a d.left = true → a ++ [d.right] ∈ qs → P (a ++ [d.right])) → (∀ x ∈ ss, P x) → ∀ x ∈ depsW ts t qs a ss ds, P x
  | [], _, _, h => h
  | d :: r, ss, hP, h => depsW_all (ds := r) (fun e he => hP e (by simp [he])) (by
    intro x hx
    unfold depW at hx
    split at hx
    · rename_i h1
      rcases addW_of hx with hx | ⟨rfl, hq⟩
      · exact h x hx
      · exact hP d (by simp) ss h h1 hq
    · exact h x hx)
theorem refW_pre : ss <+: refW ts tb qs ss p := by
  unfold refW; split
  · exact addsW_pre
  · exact List.prefix_refl _
theorem keyedW_pre : ss <+: keyedW qs ss a t := by
  unfold keyedW; split
  · exact addsW_pre
  · exact addW_pre
theorem keyW_pre : ss <+: keyW ts tb qs ss p := by
  unfold keyW; split
  · exact keyedW_pre
  · exact List.prefix_refl _
theorem followW_pre : ss <+: followW ts tb qs ss p := refW_pre.trans (keyW_pre.trans depsW_pre)
theorem followW_nodup (h : ss.Nodup) : (followW ts tb qs ss p).Nodup := by
  refine depsW_nodup ?_
  have h1 : (refW ts tb qs ss p).Nodup := by
    unfold refW; split
    · exact addsW_nodup h
    · exact h
  unfold keyW; split
  · unfold keyedW; split
    · exact addsW_nodup h1
    · exact addW_nodup h1
  · exact h1
end

theorem nodup_le {α : Type} [DecidableEq α] : ∀ {l k : List α}, l.Nodup → (∀ x ∈ l, x ∈ k) → l.length ≤ k.length
  | [], _, _, _ => Nat.zero_le _
  | a :: l, k, hn, h => by
    obtain ⟨h1, h2⟩ := List.nodup_cons.1 hn
    have := nodup_le (k := k.erase a) h2 (fun x hx => (List.mem_erase_of_ne (fun e => by subst e; exact h1 hx)).2 (h x (List.mem_cons_of_mem _ hx)))
    rw [List.length_erase_of_mem (h a List.mem_cons_self)] at this
    have hp := List.length_pos_of_mem (h a List.mem_cons_self)
    rw [List.length_cons]; omega
/-- How far it has come: what the first i of them bring with them is there. -/
structure Cls (ts : List T) (tb : ByteArray) (qs : List (List ByteArray)) (F : List ByteArray → Prop) (i : Nat) (ss : List (List ByteArray)) : Prop where
  nodup : ss.Nodup
  sound : ∀ x ∈ ss, Cl ts tb F x
  base : ∀ x ∈ qs, F x → x ∈ ss
  down : ∀ h ∈ ss.take i, ∀ x, h ++ [x] ∈ qs → h ++ [x] ∈ ss
  up : ∀ h u t, lead ts tb h = some u → findT ts u = some t → h ++ [t.key] ∈ ss.take i → h ∈ qs → h ∈ ss
  key : ∀ t, findT ts tb = some t → [t.key] ∈ ss.take i → ∀ x, [x] ∈ qs → [x] ∈ ss
  dep : ∀ h u t d, lead ts tb h = some u → findT ts u = some t → d ∈ t.deps → (∀ l ∈ d.left, mustC t l = true) → (∀ l ∈ d.left, h ++ [l] ∈ ss.take i) → h ++ [d.right] ∈ qs → h ++ [d.right] ∈ ss
section
variable {ts : List T} {tb : ByteArray} {qs ss : List (List ByteArray)} {F : List ByteArray → Prop} {i : Nat}
theorem Cls.sub (hq : ∀ p, p ∈ qs ↔ Ok ts tb p) (h : Cls ts tb qs F i ss) : ∀ x ∈ ss, x ∈ qs := fun x hx => (hq x).2 (h.sound x hx).ok
theorem Cls.start (hf : Fine ts) (hq : ∀ p, p ∈ qs ↔ Ok ts tb p) (ps : List (List ByteArray)) : Cls ts tb qs (· ∈ ps) 0 (addsW qs [] ps) where
  nodup := addsW_nodup List.nodup_nil
  sound := fun x hx => by
    rcases addsW_of hx with h | ⟨h1, h2⟩
    · cases h
    · exact .base ((hq x).1 h2) h1
  base := fun x hx hF => addsW_mem hF hx
  down := fun h hh => by cases hh
  up := fun _ _ _ _ _ hh => by cases hh
  key := fun _ _ hh => by cases hh
  dep := fun h u t d h1 h2 h3 _ h5 _ => by
    have hl := (hf.deps t (hf.find h2).1 d h3).1
    have := h5 d.left[0] (List.getElem_mem _)
    cases this
theorem take_pre {α : Type} {l k : List α} (h : l <+: k) {n : Nat} (hn : n ≤ l.length) : k.take n = l.take n := by
  obtain ⟨r, rfl⟩ := h
  rw [List.take_append_of_le_length hn]
theorem Cls.step (hf : Fine ts) (hq : ∀ p, p ∈ qs ↔ Ok ts tb p) (h : Cls ts tb qs F i ss) (hi : i < ss.length) : Cls ts tb qs F (i + 1) (followW ts tb qs ss ss[i]) := by
  obtain ⟨p, hp⟩ : ∃ p, ss[i] = p := ⟨_, rfl⟩
  have hps : p ∈ ss := hp ▸ List.getElem_mem _
  have hcl := h.sound p hps
  obtain ⟨a, y, rfl, ha⟩ := snoc_of hcl.ok.len.1
  obtain ⟨hal, u, hu, hc⟩ := ok_snoc.1 hcl.ok
  obtain ⟨t, ht, htc⟩ := tab_of hc
  obtain ⟨htm, htn, htf⟩ := hf.find ht
  have hL := okL hal hu hc
  obtain ⟨c, hcm, hcn, hce⟩ := col_has hc
  rw [hce] at hL
  have hpre := followW_pre (ts := ts) (tb := tb) (qs := qs) (ss := ss) (p := a ++ [y])
  have htake : ∀ q, q ∈ (followW ts tb qs ss (a ++ [y])).take (i + 1) → q ∈ ss.take i ∨ q = a ++ [y] := fun q hq2 => by
    rw [take_pre hpre (by omega), List.take_succ_eq_append_getElem hi, List.mem_append, List.mem_singleton, hp] at hq2
    exact hq2
  have hmem : ∀ q ∈ (followW ts tb qs ss (a ++ [y])).take (i + 1), q ∈ ss := fun q hq2 => by
    rcases htake q hq2 with hq2 | rfl
    · exact List.mem_of_mem_take hq2
    · exact hps
  have hfw : followW ts tb qs ss (a ++ [y]) = depsW ts t qs a (keyW ts tb qs (refW ts tb qs ss (a ++ [y])) (a ++ [y])) t.deps := by
    unfold followW
    rw [hL, ha, ht]
    rfl
  have hkw : ∀ s, keyW ts tb qs s (a ++ [y]) = if eqS c.nm t.key = true then keyedW qs s a t else s := fun s => by
    unfold keyW
    rw [hL, ha, ht]
    rfl
  have hrw : refW ts tb qs ss (a ++ [y]) = if hasT ts c.tgt = true then colsW qs ss (a ++ [y]) (orT (findT ts c.tgt)).cols else ss := by
    unfold refW
    rw [hL]
  have hmust : ∀ l, mustP ts t l = mustC t l := fun l => by
    unfold mustP mustC
    rw [htf]; rfl
  rw [hp]
  refine ⟨followW_nodup h.nodup, ?_, fun x hx hF => hpre.subset (h.base x hx hF), ?_, ?_, ?_, ?_⟩
  · -- sound
    rw [hfw]
    refine depsW_all (fun d hd s hs hh hr => ?_) ?_
    · unfold holdsP at hh
      rw [List.all_eq_true] at hh
      refine .dep hu ht hd (fun l hl => ?_) (fun l hl => ?_) ((hq _).1 hr)
      · have := hh l hl
        rw [Bool.and_eq_true, hmust] at this
        exact this.1
      · have := hh l hl
        rw [Bool.and_eq_true] at this
        exact hs _ (inP_iff.1 this.2)
    · rw [hkw, hrw]
      have h1 : ∀ x ∈ (if hasT ts c.tgt = true then colsW qs ss (a ++ [y]) (orT (findT ts c.tgt)).cols else ss), Cl ts tb F x := by
        intro x hx
        split at hx
        · rcases colsW_of hx with hx | ⟨⟨z, rfl⟩, hx⟩
          · exact h.sound x hx
          · exact .down hcl ((hq _).1 hx)
        · exact h.sound x hx
      intro x hx
      split at hx
      · rename_i hk
        have hk2 : y = t.key := by rw [← hcn]; exact eqS_iff.1 hk
        unfold keyedW at hx
        split at hx
        · rename_i h0
          have ha0 : a = [] := List.eq_nil_of_length_eq_zero h0
          subst ha0
          rcases colsW_of hx with hx | ⟨⟨z, rfl⟩, hx⟩
          · exact h1 _ hx
          · have : tb = u := by simpa [lead] using hu
            subst this
            rw [List.nil_append] at hx ⊢
            refine .key ht ?_ ((hq _).1 hx)
            rw [← hk2]
            exact hcl
        · rcases addW_of hx with hx | ⟨rfl, hx⟩
          · exact h1 x hx
          · exact .up hu ht (hk2 ▸ hcl) ((hq _).1 hx)
      · exact h1 x hx
  · -- down
    intro q hq2 x hx
    rcases htake q hq2 with hq2 | rfl
    · exact hpre.subset (h.down q hq2 x hx)
    · obtain ⟨_, v, hv, hxc⟩ := ok_snoc.1 ((hq _).1 hx)
      obtain ⟨u', hu', _, h3, h4⟩ := lead_snoc.1 hv
      obtain rfl : u = u' := by rw [hu] at hu'; exact Option.some.inj hu'
      rw [hce] at h3 h4
      obtain ⟨t2, ht2, htc2⟩ := tab_of hxc
      rw [← h4] at ht2
      have hT : hasT ts c.tgt = true := by
        unfold hasT
        rw [find_any]
        show (findT ts c.tgt).isSome = true
        rw [ht2]; rfl
      rw [hfw]
      refine (keyW_pre.trans depsW_pre).subset ?_
      rw [hrw, if_pos hT, ht2]
      refine colsW_mem ?_ hx
      show hasC t2.cols x = true
      rw [← htc2]; exact hxc
  · -- up
    intro q u' t' h1 h2 h3 h4
    rcases htake _ h3 with h3 | h3
    · exact hpre.subset (h.up q u' t' h1 h2 h3 h4)
    · obtain ⟨rfl, e⟩ := List.append_inj' h3 rfl
      obtain rfl : u = u' := by rw [hu] at h1; exact Option.some.inj h1
      obtain rfl : t = t' := by rw [ht] at h2; exact Option.some.inj h2
      have e2 : t.key = y := by simpa using e
      have hk : eqS c.nm t.key = true := by rw [hcn, e2]; exact eqS_self _
      have hne : ¬ q.length = 0 := by have := ((hq _).1 h4).len; omega
      rw [hfw]
      refine depsW_pre.subset ?_
      rw [hkw, if_pos hk]
      unfold keyedW
      rw [if_neg hne]
      exact addW_mem h4
  · -- key
    intro t' h1 h2 x hx
    rcases htake _ h2 with h2 | h2
    · exact hpre.subset (h.key t' h1 h2 x hx)
    · obtain ⟨e0', e⟩ := List.append_inj' (show ([] : List ByteArray) ++ [t'.key] = a ++ [y] from h2) rfl
      subst e0'
      have e2 : t'.key = y := by simpa using e
      have : tb = u := by simpa [lead] using hu
      subst this
      obtain rfl : t = t' := by rw [ht] at h1; exact Option.some.inj h1
      have hk : eqS c.nm t.key = true := by rw [hcn, e2]; exact eqS_self _
      rw [hfw]
      refine depsW_pre.subset ?_
      rw [hkw, if_pos hk]
      unfold keyedW
      rw [if_pos (show ([] : List ByteArray).length = 0 from rfl)]
      have hx2 := (ok_snoc (a := []) (x := x)).1 ((hq _).1 hx)
      obtain ⟨_, v, hv, hxc⟩ := hx2
      have : tb = v := by simpa [lead] using hv
      subst this
      rw [htc] at hxc
      exact colsW_mem (a := []) hxc hx
  · -- dep
    intro q u' t' d h1 h2 h3 h4 h5 h6
    by_cases hall : ∀ l ∈ d.left, q ++ [l] ∈ ss.take i
    · exact hpre.subset (h.dep q u' t' d h1 h2 h3 h4 hall h6)
    · obtain ⟨l, hl, hn⟩ : ∃ l, l ∈ d.left ∧ q ++ [l] ∉ ss.take i := by
        apply Classical.byContradiction
        intro hc
        exact hall fun l hl => Classical.byContradiction fun hn => hc ⟨l, hl, hn⟩
      rcases htake _ (h5 l hl) with h7 | h7
      · exact absurd h7 hn
      · obtain ⟨rfl, _⟩ := List.append_inj' h7 rfl
        obtain rfl : u = u' := by rw [hu] at h1; exact Option.some.inj h1
        obtain rfl : t = t' := by rw [ht] at h2; exact Option.some.inj h2
        rw [hfw]
        refine depsW_mem h3 ?_ h6
        unfold holdsP
        rw [List.all_eq_true]
        intro k hk
        rw [Bool.and_eq_true, hmust]
        exact ⟨h4 k hk, inP_iff.2 ((refW_pre.trans keyW_pre).subset (hmem _ (h5 k hk)))⟩
theorem Cls.done (hq : ∀ p, p ∈ qs ↔ Ok ts tb p) (h : Cls ts tb qs F ss.length ss) (x : List ByteArray) : x ∈ ss ↔ Cl ts tb F x := by
  have ht : ss.take ss.length = ss := List.take_length
  refine ⟨h.sound x, fun hx => ?_⟩
  induction hx with
  | base h1 h2 => exact h.base _ ((hq _).2 h1) h2
  | down _ h2 ih => exact h.down _ (by rw [ht]; exact ih) _ ((hq _).2 h2)
  | up h1 h2 _ h4 ih => exact h.up _ _ _ h1 h2 (by rw [ht]; exact ih) ((hq _).2 h4)
  | key h1 _ h3 ih => exact h.key _ h1 (by rw [ht]; exact ih) _ ((hq _).2 h3)
  | dep h1 h2 h3 h4 _ h6 ih => exact h.dep _ _ _ _ h1 h2 h3 h4 (fun l hl => by rw [ht]; exact ih l hl) ((hq _).2 h6)
theorem Cls.few (hq : ∀ p, p ∈ qs ↔ Ok ts tb p) (h : Cls ts tb qs F i ss) : ss.length ≤ qs.length :=
  nodup_le h.nodup (h.sub hq)
end

/-! ### To reckon with -/
def loopW (ts : List T) (tb : ByteArray) (qs : List (List ByteArray)) : Nat → Nat → List (List ByteArray) → List (List ByteArray)
  | 0, _, ss => ss
  | n + 1, i, ss => match ss[i]? with | some p => loopW ts tb qs n (i + 1) (followW ts tb qs ss p) | none => ss
def closW (ts : List T) (tb : ByteArray) (qs ps : List (List ByteArray)) : List (List ByteArray) := loopW ts tb qs (qs.length + 1) 0 (addsW qs [] ps)
theorem loopW_cls {ts : List T} {tb : ByteArray} {qs : List (List ByteArray)} {F : List ByteArray → Prop} (hf : Fine ts) (hq : ∀ p, p ∈ qs ↔ Ok ts tb p) : ∀ (n i : Nat) (ss : List (List ByteArray)), Cls ts tb qs F i ss → i ≤ ss.length → qs.length + 1 ≤ i + n → ∃ ss', loopW ts tb qs n i ss = ss' ∧ Cls ts tb qs F ss'.length ss'
  | 0, i, ss, h, hi, hn => by have := h.few hq; omega
  | n + 1, i, ss, h, hi, hn => by
    rw [loopW]
    by_cases hlt : i < ss.length
    · rw [List.getElem?_eq_getElem hlt]
      exact loopW_cls hf hq n (i + 1) _ (h.step hf hq hlt) (by have := followW_pre (ts := ts) (tb := tb) (qs := qs) (ss := ss) (p := ss[i]); have := this.length_le; omega) (by omega)
    · obtain rfl : i = ss.length := by omega
      rw [List.getElem?_eq_none (Nat.le_refl _)]
      exact ⟨ss, rfl, h⟩
theorem closW_iff {ts : List T} {tb : ByteArray} {qs ps : List (List ByteArray)} (hf : Fine ts) (hq : ∀ p, p ∈ qs ↔ Ok ts tb p) : (closW ts tb qs ps).Nodup ∧ ∀ x, x ∈ closW ts tb qs ps ↔ Cl ts tb (· ∈ ps) x := by
  obtain ⟨ss, h1, h2⟩ := loopW_cls hf hq (qs.length + 1) 0 _ (Cls.start hf hq ps) (Nat.zero_le _) (by omega)
  unfold closW
  rw [h1]
  exact ⟨h2.nodup, h2.done hq⟩
/-- The answer: in order, just what the rules give. -/
def IsCl (ts : List T) (tb : ByteArray) (ps ls : List (List ByteArray)) : Prop := ls.Pairwise (fun a b => cmpP a b < 0) ∧ ∀ x, x ∈ ls ↔ Cl ts tb (· ∈ ps) x
theorem IsCl.one {ts : List T} {tb : ByteArray} {ps l k : List (List ByteArray)} (h : IsCl ts tb ps l) (g : IsCl ts tb ps k) : l = k :=
  ext_sorted h.1 g.1 fun x => (h.2 x).trans (g.2 x).symm
theorem nodup_sorted {l : List (List ByteArray)} (h : l.Pairwise (fun a b => cmpP a b < 0)) : l.Nodup := by
  refine h.imp fun {a b} hab e => ?_
  subst e
  rw [cmpP_self] at hab
  exact absurd hab (by decide)
theorem IsCl.perm {ts : List T} {tb : ByteArray} {qs ps ls : List (List ByteArray)} (hf : Fine ts) (hq : ∀ p, p ∈ qs ↔ Ok ts tb p) (h : IsCl ts tb ps ls) : ls.Perm (closW ts tb qs ps) := by
  obtain ⟨h1, h2⟩ := closW_iff (ps := ps) hf hq
  exact (List.perm_ext_iff_of_nodup (nodup_sorted h.1) h1).2 fun x => (h.2 x).trans (h2 x).symm
end Go.Proofs.YtmfkkpogmmoflaaGreat
