/- Tables' forms in plain: what may be, what is kept. Nothing of the program. -/
import Derived.Test.YtmfkkpogmmoflaaGreatNM
namespace Go.Proofs.YtmfkkpogmmoflaaGreat
open Go

def eqS (a b : ByteArray) : Bool := a.data.toList == b.data.toList
theorem eqS_toList (a b : ByteArray) : (a.toList == b.toList) = eqS a b := by rw [ByteArray.toList_eq, ByteArray.toList_eq]; rfl
theorem eqS_iff {a b : ByteArray} : eqS a b = true ↔ a = b := by
  unfold eqS
  rw [beq_iff_eq]
  constructor
  · intro h
    cases a; cases b
    congr 1
    exact Array.toList_inj.1 h
  · rintro rfl; rfl
theorem eqS_self (a : ByteArray) : eqS a a = true := eqS_iff.2 rfl
theorem eqS_comm (a b : ByteArray) : eqS a b = eqS b a := by
  rw [Bool.eq_iff_iff, eqS_iff, eqS_iff]; exact eq_comm

/-! ### Firsts -/
section
variable {α : Type} {p : α → Bool}
theorem first_at : ∀ (l : List α) (j : Nat) (h : j < l.length), p l[j] = true → (∀ i (hi : i < j), p (l[i]'(by omega)) = false) → l.find? p = some l[j] ∧ l.any p = true ∧ l.findIdx? p = some j
  | [], j, h, _, _ => absurd h (Nat.not_lt_zero j)
  | a :: r, 0, _, hp, _ => by
    have hp : p a = true := hp
    simp [List.any_cons, List.findIdx?_cons, hp]
  | a :: r, j + 1, h, hp, hn => by
    have h0 : p a = false := hn 0 (by omega)
    have hj : j < r.length := by simpa using h
    obtain ⟨h1, h2, h3⟩ := first_at r j hj hp (fun i hi => hn (i + 1) (by omega))
    refine ⟨?_, ?_, ?_⟩
    · rw [List.find?_cons, h0]; exact h1
    · rw [List.any_cons, h0]; exact h2
    · rw [List.findIdx?_cons, h0, h3]; rfl
theorem none_at (l : List α) (hn : ∀ i (hi : i < l.length), p l[i] = false) : l.find? p = none ∧ l.any p = false ∧ l.findIdx? p = none := by
  have h : ∀ x ∈ l, p x = false := fun x hx => by
    obtain ⟨i, hi, rfl⟩ := List.getElem_of_mem hx
    exact hn i hi
  refine ⟨?_, ?_, ?_⟩
  · rw [List.find?_eq_none]; intro x hx; simp [h x hx]
  · rw [List.any_eq_false]; intro x hx; simp [h x hx]
  · rw [List.findIdx?_eq_none_iff]; exact h
theorem find_any (l : List α) : l.any p = (l.find? p).isSome := by
  induction l with
  | nil => rfl
  | cons a r ih =>
    rw [List.any_cons, List.find?_cons]
    cases h : p a <;> simp [ih]
theorem find_idx (l : List α) : match l.findIdx? p with | none => l.find? p = none | some j => ∃ h : j < l.length, l.find? p = some l[j] ∧ p l[j] = true := by
  induction l with
  | nil => rfl
  | cons a r ih =>
    rw [List.findIdx?_cons]
    cases h : p a
    · simp only [Bool.false_eq_true, if_false]
      cases hj : r.findIdx? p with
      | none => rw [hj] at ih; rw [List.find?_cons, h]; exact ih
      | some j =>
        rw [hj] at ih
        obtain ⟨h1, h2, h3⟩ := ih
        exact ⟨by simpa using h1, by rw [List.find?_cons, h]; exact h2, h3⟩
    · simp only [if_true]
      exact ⟨by simp, by rw [List.find?_cons, h]; rfl, h⟩
end
theorem range_yes {n : Nat} {f : Nat → Bool} (h : ∀ j, j < n → f j = true) : (List.range n).all f = true := by
  rw [List.all_eq_true]; intro x hx; exact h x (List.mem_range.1 hx)
theorem range_no {n : Nat} {f : Nat → Bool} (j : Nat) (hj : j < n) (h : f j = false) : (List.range n).all f = false := by
  rw [List.all_eq_false]; exact ⟨j, List.mem_range.2 hj, by simp [h]⟩

/-! ### Forms -/
structure C where
  nm : ByteArray
  kd : Int
  mu : Bool
  tgt : ByteArray
structure D where
  left : List ByteArray
  right : ByteArray
structure T where
  nm : ByteArray
  cols : List C
  key : ByteArray
  deps : List D
abbrev e0 : ByteArray := ⟨#[]⟩
def isC (x : ByteArray) (c : C) : Bool := eqS c.nm x
def hasC (l : List C) (x : ByteArray) : Bool := l.any (isC x)
def colOf (l : List C) (x : ByteArray) : Option C := l.find? (isC x)
def ixC (l : List C) (x : ByteArray) : Int := match l.findIdx? (isC x) with | none => -1 | some j => (j : Int)
def isT (x : ByteArray) (t : T) : Bool := eqS t.nm x
def findT (l : List T) (x : ByteArray) : Option T := l.find? (isT x)
def hasT (l : List T) (x : ByteArray) : Bool := l.any (isT x)
def ixT (l : List T) (x : ByteArray) : Int := match l.findIdx? (isT x) with | none => -1 | some j => (j : Int)
def hasS (l : List ByteArray) (x : ByteArray) : Bool := l.any (eqS x)
def ixS (l : List ByteArray) (x : ByteArray) : Int := match l.findIdx? (eqS x) with | none => -1 | some j => (j : Int)
def named (x : ByteArray) : Bool := nameB x.data.toList

def lim (ts : List T) (t : T) : Bool := decide (8 ≤ ts.length) || (decide (t.cols.length < 1) || (decide (6 < t.cols.length) || decide (3 < t.deps.length)))
def colGood (l : List C) (j : Nat) : Bool := match l[j]? with | some c => named c.nm && !hasC (l.take j) c.nm | none => true
def colsGood (l : List C) : Bool := (List.range l.length).all (colGood l)
def keyGood (t : T) : Bool := eqS t.key e0 || hasC t.cols t.key
def leftAt (l : List C) (left : List ByteArray) (k : Nat) : Bool := match left[k]? with | some x => hasC l x && !hasS (left.take k) x | none => true
def leftGood (l : List C) (left : List ByteArray) : Bool := (decide (1 ≤ left.length) && decide (left.length ≤ 3)) && (List.range left.length).all (leftAt l left)
def depGood (l : List C) (d : D) : Bool := leftGood l d.left && (hasC l d.right && !hasS d.left d.right)
def depAt (l : List C) (ds : List D) (j : Nat) : Bool := match ds[j]? with | some d => depGood l d | none => true
def depsGood (l : List C) (ds : List D) : Bool := (List.range ds.length).all (depAt l ds)
def free (ts : List T) (x : ByteArray) : Bool := named x && !hasT ts x
def namesGood (ts : List T) (t : T) : Bool := free ts t.nm && (colsGood t.cols && (keyGood t && depsGood t.cols t.deps))
def kindAt (l : List C) (j : Nat) : Bool := match l[j]? with | some c => decide (c.kd = 1 ∨ c.kd = 2) | none => true
def kindsGood (l : List C) : Bool := (List.range l.length).all (kindAt l)
def leads (ts : List T) (c : C) : Int := if eqS c.tgt e0 = true then 0 else match findT ts c.tgt with | none => 3 | some t => match colOf t.cols t.key with | none => 9 | some k => if k.kd = c.kd then 0 else 4
def firstErr : List Int → Int
  | [] => 0
  | x :: r => if x = 0 then firstErr r else x
def mayP (ts : List T) (t : T) : Int := if lim ts t = true then 5 else if namesGood ts t = true then (if kindsGood t.cols = true then firstErr (t.cols.map (leads ts)) else 4) else 3
def formC (key : ByteArray) (c : C) : C := { c with mu := c.mu || eqS c.nm key }
def formT (t : T) : T := { t with cols := t.cols.map (formC t.key) }
def addT (ts : List T) (t : T) : List T := if mayP ts t = 0 then ts ++ [formT t] else ts

theorem firstErr_at : ∀ (l : List Int) (j : Nat) (h : j < l.length), l[j] ≠ 0 → (∀ i (hi : i < j), l[i]'(by omega) = 0) → firstErr l = l[j]
  | [], j, h, _, _ => absurd h (Nat.not_lt_zero j)
  | a :: r, 0, _, hp, _ => by
    have hp : a ≠ 0 := hp
    simp [firstErr, hp]
  | a :: r, j + 1, h, hp, hn => by
    have h0 : a = 0 := hn 0 (by omega)
    have hj : j < r.length := by simpa using h
    have := firstErr_at r j hj hp (fun i hi => hn (i + 1) (by omega))
    rw [firstErr, if_pos h0]; exact this
theorem firstErr_none : ∀ (l : List Int), (∀ i (hi : i < l.length), l[i] = 0) → firstErr l = 0
  | [], _ => rfl
  | a :: r, h => by
    have h0 : a = 0 := h 0 (by simp)
    rw [firstErr, if_pos h0]
    exact firstErr_none r (fun i hi => h (i + 1) (by simpa using hi))

/-- What holds of the tables that are there. -/
structure Inv (ts : List T) : Prop where
  len : ts.length ≤ 8
  col : ∀ t ∈ ts, ∀ c ∈ t.cols, named c.nm = true
  key : ∀ t ∈ ts, keyGood t = true
  one : ∀ i (hi : i < ts.length), findT ts ts[i].nm = some ts[i] ∧ ixT ts ts[i].nm = (i : Int)
theorem named_e0 : named e0 = false := rfl
theorem named_ne {x : ByteArray} (h : named x = true) : eqS x e0 = false := by
  cases hx : eqS x e0
  · rfl
  · rw [eqS_iff] at hx
    subst hx
    exact absurd h (by rw [named_e0]; decide)
theorem no_empty {l : List C} (h : ∀ c ∈ l, named c.nm = true) : colOf l e0 = none := by
  unfold colOf
  rw [List.find?_eq_none]
  intro c hc
  unfold isC
  rw [named_ne (h c hc)]; decide
theorem nil_inv : Inv [] := ⟨by simp, by simp, by simp, fun i hi => absurd hi (by simp)⟩
theorem mayP_zero {ts : List T} {t : T} (h : mayP ts t = 0) : lim ts t = false ∧ namesGood ts t = true ∧ kindsGood t.cols = true ∧ firstErr (t.cols.map (leads ts)) = 0 := by
  unfold mayP at h
  split at h
  · omega
  · split at h
    · split at h
      · rename_i h1 h2 h3
        exact ⟨by simpa using h1, h2, h3, h⟩
      · omega
    · omega
theorem hasC_form (k x : ByteArray) (l : List C) : hasC (l.map (formC k)) x = hasC l x := by
  unfold hasC
  rw [List.any_map]
  rfl
theorem keyGood_form (t : T) : keyGood (formT t) = keyGood t := by
  unfold keyGood formT
  simp only [hasC_form]
theorem colsGood_mem {l : List C} (h : colsGood l = true) : ∀ c ∈ l, named c.nm = true := by
  intro c hc
  obtain ⟨j, hj, rfl⟩ := List.getElem_of_mem hc
  unfold colsGood at h
  rw [List.all_eq_true] at h
  have := h j (List.mem_range.2 hj)
  unfold colGood at this
  rw [List.getElem?_eq_getElem hj] at this
  simp only [Bool.and_eq_true] at this
  exact this.1
theorem find_append_old {ts : List T} {t u : T} {x : ByteArray} (h : findT ts x = some u) : findT (ts ++ [t]) x = some u := by
  unfold findT at h ⊢
  rw [List.find?_append, h]; rfl
theorem Inv.add {ts : List T} (h : Inv ts) (t : T) : Inv (addT ts t) := by
  unfold addT
  split
  · rename_i h0
    obtain ⟨h1, h2, _, _⟩ := mayP_zero h0
    unfold lim at h1
    unfold namesGood at h2
    simp only [Bool.or_eq_false_iff, decide_eq_false_iff_not] at h1
    simp only [Bool.and_eq_true] at h2
    obtain ⟨f1, f2, f3, f4⟩ := h2
    unfold free at f1
    simp only [Bool.and_eq_true, Bool.not_eq_true'] at f1
    have hnone : ts.findIdx? (isT t.nm) = none := by
      rw [List.findIdx?_eq_none_iff]
      intro x hx
      have := f1.2
      unfold hasT at this
      rw [List.any_eq_false] at this
      simpa using this x hx
    refine ⟨by simp; omega, ?_, ?_, ?_⟩
    · intro u hu
      rw [List.mem_append, List.mem_singleton] at hu
      rcases hu with hu | rfl
      · exact h.col u hu
      · intro c hc
        obtain ⟨c0, hc0, rfl⟩ := List.mem_map.1 hc
        exact colsGood_mem f2 c0 hc0
    · intro u hu
      rw [List.mem_append, List.mem_singleton] at hu
      rcases hu with hu | rfl
      · exact h.key u hu
      · rw [keyGood_form]; exact f3
    · intro i hi
      by_cases e : i < ts.length
      · rw [List.getElem_append_left e]
        refine ⟨find_append_old (h.one i e).1, ?_⟩
        have := (h.one i e).2
        unfold ixT at this ⊢
        rw [List.findIdx?_append]
        cases hf : ts.findIdx? (isT ts[i].nm) with
        | none => rw [hf] at this; simp at this
        | some j => rw [hf] at this; simpa using this
      · have e2 : i = ts.length := by simp at hi; omega
        subst e2
        have e3 : (ts ++ [formT t])[ts.length] = formT t := by simp
        rw [e3]
        have hs : isT (formT t).nm (formT t) = true := eqS_self _
        have hn : (formT t).nm = t.nm := rfl
        constructor
        · unfold findT
          rw [List.find?_append]
          have : List.find? (isT (formT t).nm) ts = none := by
            rw [List.find?_eq_none]
            intro x hx
            rw [List.findIdx?_eq_none_iff] at hnone
            rw [hn, hnone x hx]; decide
          rw [this, List.find?_cons, hs]; rfl
        · unfold ixT
          rw [List.findIdx?_append, hn, hnone, ← hn, List.findIdx?_cons, hs]
          simp
  · exact h
end Go.Proofs.YtmfkkpogmmoflaaGreat
