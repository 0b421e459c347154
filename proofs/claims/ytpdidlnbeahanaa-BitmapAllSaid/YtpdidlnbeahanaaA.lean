/- Runs and sets of numbers, in no memory. -/
import Init
namespace Go.Proofs.Ytpdidlnbeahanaa

abbrev R2 := Int × Int
def mem (l : List R2) (x : Int) : Prop := ∃ r ∈ l, r.1 ≤ x ∧ x < r.2
def Nrm (l : List R2) : Prop := l.Pairwise (fun r s => r.2 < s.1) ∧ ∀ r ∈ l, 0 ≤ r.1 ∧ r.1 < r.2 ∧ r.2 ≤ 65536
theorem Nrm.nil : Nrm [] := ⟨List.Pairwise.nil, fun r h => by simp at h⟩
theorem mem_nil (x : Int) : ¬ mem [] x := fun ⟨r, h, _⟩ => by simp at h
theorem mem_append (l m : List R2) (x : Int) : mem (l ++ m) x ↔ mem l x ∨ mem m x := by
  constructor
  · rintro ⟨r, h, k⟩
    rcases List.mem_append.1 h with h | h
    · exact .inl ⟨r, h, k⟩
    · exact .inr ⟨r, h, k⟩
  · rintro (⟨r, h, k⟩ | ⟨r, h, k⟩)
    · exact ⟨r, List.mem_append.2 (.inl h), k⟩
    · exact ⟨r, List.mem_append.2 (.inr h), k⟩
theorem mem_one (r : R2) (x : Int) : mem [r] x ↔ r.1 ≤ x ∧ x < r.2 := by
  constructor
  · rintro ⟨s, h, k⟩
    rw [List.mem_singleton] at h
    subst h
    exact k
  · exact fun h => ⟨r, by simp, h⟩
theorem mem_cons (r : R2) (l : List R2) (x : Int) : mem (r :: l) x ↔ (r.1 ≤ x ∧ x < r.2) ∨ mem l x := by
  have := mem_append [r] l x
  rw [mem_one] at this
  exact this
theorem mem_bd {l : List R2} (h : Nrm l) {x : Int} (hx : mem l x) : 0 ≤ x ∧ x < 65536 := by
  obtain ⟨r, hr, h1, h2⟩ := hx
  have := h.2 r hr
  omega
theorem Nrm.left {l m : List R2} (h : Nrm (l ++ m)) : Nrm l := ⟨(List.pairwise_append.1 h.1).1, fun r hr => h.2 r (List.mem_append.2 (.inl hr))⟩
theorem Nrm.right {l m : List R2} (h : Nrm (l ++ m)) : Nrm m := ⟨(List.pairwise_append.1 h.1).2.1, fun r hr => h.2 r (List.mem_append.2 (.inr hr))⟩
theorem Nrm.gap {l m : List R2} (h : Nrm (l ++ m)) : ∀ r ∈ l, ∀ s ∈ m, r.2 < s.1 := (List.pairwise_append.1 h.1).2.2
theorem Nrm.mk {l m : List R2} (h : Nrm l) (k : Nrm m) (g : ∀ r ∈ l, ∀ s ∈ m, r.2 < s.1) : Nrm (l ++ m) :=
  ⟨List.pairwise_append.2 ⟨h.1, k.1, g⟩, fun r hr => (List.mem_append.1 hr).elim (h.2 r) (k.2 r)⟩
theorem Nrm.one {f t : Int} (h0 : 0 ≤ f) (h1 : f < t) (h2 : t ≤ 65536) : Nrm [(f, t)] :=
  ⟨List.pairwise_singleton _ _, fun r hr => by rw [List.mem_singleton] at hr; subst hr; exact ⟨h0, h1, h2⟩⟩

/-- A list is empty, or has a last one. -/
theorem snoc_or {α : Type} (l : List α) : l = [] ∨ ∃ k r, l = k ++ [r] := by
  rcases List.eq_nil_or_concat l with h | ⟨k, r, h⟩
  · exact .inl h
  · exact .inr ⟨k, r, by rw [h, List.concat_eq_append]⟩

def addL (l : List R2) (f t : Int) : List R2 :=
  if f < t then
    match l.getLast? with
    | some r => if f ≤ r.2 then l.dropLast ++ [(r.1, max t r.2)] else l ++ [(f, t)]
    | none => [(f, t)]
  else l
theorem addL_no {l : List R2} {f t : Int} (h : ¬ f < t) : addL l f t = l := by unfold addL; rw [if_neg h]
theorem addL_nil {f t : Int} (h : f < t) : addL [] f t = [(f, t)] := by unfold addL; rw [if_pos h]; rfl
theorem addL_touch {k : List R2} {r : R2} {f t : Int} (h : f < t) (h1 : f ≤ r.2) : addL (k ++ [r]) f t = k ++ [(r.1, max t r.2)] := by
  unfold addL
  rw [if_pos h]
  simp [h1]
theorem addL_apart {k : List R2} {r : R2} {f t : Int} (h : f < t) (h1 : ¬ f ≤ r.2) : addL (k ++ [r]) f t = k ++ [r] ++ [(f, t)] := by
  unfold addL
  rw [if_pos h]
  simp only [List.getLast?_append, List.getLast?_singleton, Option.some_or, if_neg h1]
/-- What may be added. -/
def Fits (l : List R2) (f t : Int) : Prop := f < t → 0 ≤ f ∧ t ≤ 65536 ∧ ∀ r ∈ l, r.1 ≤ f
theorem add_nrm {l : List R2} {f t : Int} (h : Nrm l) (k : Fits l f t) : Nrm (addL l f t) := by
  by_cases hf : f < t
  · obtain ⟨k0, k1, k2⟩ := k hf
    rcases snoc_or l with rfl | ⟨l, r, rfl⟩
    · rw [addL_nil hf]; exact Nrm.one k0 hf k1
    · have hr := h.2 r (by simp)
      have hg := h.gap
      have hfr := k2 r (by simp)
      by_cases ht : f ≤ r.2
      · rw [addL_touch hf ht]
        refine h.left.mk (Nrm.one hr.1 (by omega) (by omega)) (fun q hq s hs => ?_)
        rw [List.mem_singleton] at hs
        subst hs
        exact hg q hq r (by simp)
      · rw [addL_apart hf ht]
        refine h.mk (Nrm.one k0 hf k1) (fun q hq s hs => ?_)
        rw [List.mem_singleton] at hs
        subst hs
        rcases List.mem_append.1 hq with hq | hq
        · have := hg q hq r (by simp)
          show q.2 < f
          omega
        · rw [List.mem_singleton] at hq
          subst hq
          show q.2 < f
          omega
  · rw [addL_no hf]; exact h
theorem add_mem {l : List R2} {f t : Int} (h : Nrm l) (k : Fits l f t) (x : Int) : mem (addL l f t) x ↔ mem l x ∨ (f ≤ x ∧ x < t) := by
  by_cases hf : f < t
  · obtain ⟨k0, k1, k2⟩ := k hf
    rcases snoc_or l with rfl | ⟨l, r, rfl⟩
    · rw [addL_nil hf, mem_one]
      have := mem_nil x
      exact ⟨fun h => .inr h, fun h => h.resolve_left this⟩
    · have hr := h.2 r (by simp)
      have hfr := k2 r (by simp)
      by_cases ht : f ≤ r.2
      · rw [addL_touch hf ht, mem_append, mem_append, mem_one, mem_one]
        have : (r.1 ≤ x ∧ x < max t r.2) ↔ (r.1 ≤ x ∧ x < r.2) ∨ (f ≤ x ∧ x < t) := by omega
        show mem l x ∨ (r.1 ≤ x ∧ x < max t r.2) ↔ _
        rw [this, or_assoc]
      · rw [addL_apart hf ht, mem_append, mem_one]
  · rw [addL_no hf]
    exact ⟨fun h => .inl h, fun h => h.resolve_right (by omega)⟩
theorem add_le {l : List R2} {f t g : Int} (h : ∀ r ∈ l, r.1 ≤ g) (k : f < t → f ≤ g) : ∀ r ∈ addL l f t, r.1 ≤ g := by
  by_cases hf : f < t
  · rcases snoc_or l with rfl | ⟨l, r, rfl⟩
    · rw [addL_nil hf]
      intro q hq
      rw [List.mem_singleton] at hq
      subst hq
      exact k hf
    · by_cases ht : f ≤ r.2
      · rw [addL_touch hf ht]
        intro q hq
        rcases List.mem_append.1 hq with hq | hq
        · exact h q (by simp [hq])
        · rw [List.mem_singleton] at hq
          subst hq
          exact h r (by simp)
      · rw [addL_apart hf ht]
        intro q hq
        rcases List.mem_append.1 hq with hq | hq
        · exact h q hq
        · rw [List.mem_singleton] at hq
          subst hq
          exact k hf
  · rw [addL_no hf]; exact h

/-! ### Numbers from a to ahead of b; the elements -/
def rng (a b : Int) : List Int := (List.range (b - a).toNat).map (fun i : Nat => a + (i : Int))
theorem mem_rng {a b x : Int} : x ∈ rng a b ↔ a ≤ x ∧ x < b := by
  unfold rng
  rw [List.mem_map]
  constructor
  · rintro ⟨i, h, rfl⟩
    rw [List.mem_range] at h
    omega
  · intro h
    exact ⟨(x - a).toNat, by rw [List.mem_range]; omega, by omega⟩
theorem rng_len (a b : Int) : (rng a b).length = (b - a).toNat := by simp [rng]
theorem rng_nil {a b : Int} (h : b ≤ a) : rng a b = [] := by unfold rng; rw [show (b - a).toNat = 0 by omega]; rfl
theorem rng_cons {a b : Int} (h : a < b) : rng a b = a :: rng (a + 1) b := by
  unfold rng
  rw [show (b - a).toNat = (b - (a + 1)).toNat + 1 by omega, List.range_succ_eq_map, List.map_cons, List.map_map]
  congr 1
  · omega
  · apply List.map_congr_left
    intro i _
    show a + ((i + 1 : Nat) : Int) = a + 1 + (i : Int)
    omega
theorem rng_split {a b c : Int} (h1 : a ≤ b) (h2 : b ≤ c) : rng a c = rng a b ++ rng b c := by
  obtain ⟨n, hn⟩ : ∃ n, (b - a).toNat = n := ⟨_, rfl⟩
  induction n generalizing a with
  | zero => rw [show a = b by omega, rng_nil (Int.le_refl _)]; rfl
  | succ n ih => rw [rng_cons (show a < c by omega), rng_cons (show a < b by omega), ih (a := a + 1) (by omega) (by omega)]; rfl
theorem rng_get {a b : Int} {i : Nat} (h : i < (b - a).toNat) : (rng a b)[i]? = some (a + (i : Int)) := by
  unfold rng
  rw [List.getElem?_map, List.getElem?_range h]
  rfl
theorem rng_srt (a b : Int) : (rng a b).Pairwise (· < ·) := by
  obtain ⟨n, hn⟩ : ∃ n, (b - a).toNat = n := ⟨_, rfl⟩
  induction n generalizing a with
  | zero => rw [rng_nil (by omega)]; exact List.Pairwise.nil
  | succ n ih =>
    rw [rng_cons (by omega), List.pairwise_cons]
    exact ⟨fun x hx => by have := (mem_rng.1 hx).1; omega, ih (a + 1) (by omega)⟩
theorem srt_ext {xs ys : List Int} (h : xs.Pairwise (· < ·)) (k : ys.Pairwise (· < ·)) (e : ∀ x, x ∈ xs ↔ x ∈ ys) : xs = ys := by
  induction xs generalizing ys with
  | nil =>
    cases ys with
    | nil => rfl
    | cons y ys => exact absurd ((e y).2 (by simp)) (by simp)
  | cons x xs ih =>
    cases ys with
    | nil => exact absurd ((e x).1 (by simp)) (by simp)
    | cons y ys =>
      rw [List.pairwise_cons] at h k
      have hxy : x = y := by
        rcases List.mem_cons.1 ((e x).1 (by simp)) with h1 | h1
        · exact h1
        · rcases List.mem_cons.1 ((e y).2 (by simp)) with h2 | h2
          · exact h2.symm
          · have := k.1 x h1
            have := h.1 y h2
            omega
      subst hxy
      congr 1
      refine ih h.2 k.2 (fun z => ?_)
      have := e z
      rw [List.mem_cons, List.mem_cons] at this
      constructor
      · intro hz
        have h1 := h.1 z hz
        exact (this.1 (.inr hz)).resolve_left (by omega)
      · intro hz
        have h1 := k.1 z hz
        exact (this.2 (.inr hz)).resolve_left (by omega)
def els (l : List R2) : List Int := l.flatMap fun r => rng r.1 r.2
theorem els_append (l m : List R2) : els (l ++ m) = els l ++ els m := by simp [els]
theorem els_one (r : R2) : els [r] = rng r.1 r.2 := by simp [els]
theorem els_cons (r : R2) (l : List R2) : els (r :: l) = rng r.1 r.2 ++ els l := by simp [els]
theorem mem_els {l : List R2} {x : Int} : x ∈ els l ↔ mem l x := by
  unfold els
  rw [List.mem_flatMap]
  constructor
  · rintro ⟨r, h, k⟩
    exact ⟨r, h, mem_rng.1 k⟩
  · rintro ⟨r, h, k⟩
    exact ⟨r, h, mem_rng.2 k⟩
theorem els_srt {l : List R2} (h : Nrm l) : (els l).Pairwise (· < ·) := by
  induction l with
  | nil => exact List.Pairwise.nil
  | cons r l ih =>
    have hr : Nrm (([r] : List R2) ++ l) := h
    rw [els_cons, List.pairwise_append]
    refine ⟨rng_srt _ _, ih hr.right, fun x hx y hy => ?_⟩
    obtain ⟨s, hs, h1, _⟩ := mem_els.1 hy
    have := hr.gap r (by simp) s hs
    have := (mem_rng.1 hx).2
    omega
def elems (P : Int → Bool) : List Int := (rng 0 65536).filter P
theorem mem_elems {P : Int → Bool} {x : Int} : x ∈ elems P ↔ (0 ≤ x ∧ x < 65536) ∧ P x = true := by
  unfold elems
  rw [List.mem_filter, mem_rng]
theorem elems_srt (P : Int → Bool) : (elems P).Pairwise (· < ·) := (rng_srt _ _).filter _
/-- The runs l are the set P. -/
def Is (l : List R2) (P : Int → Bool) : Prop := ∀ x, mem l x ↔ P x = true
theorem Is.els {l : List R2} {P : Int → Bool} (h : Nrm l) (k : Is l P) : els l = elems P :=
  srt_ext (els_srt h) (elems_srt P) (fun x => by
    rw [mem_els, mem_elems]
    constructor
    · intro hx
      exact ⟨mem_bd h hx, (k x).1 hx⟩
    · exact fun hx => (k x).2 hx.2)

/-! ### Like sets have like runs -/
def ofL (xs : List Int) : List R2 := xs.foldl (fun L x => addL L x (x + 1)) []
theorem fold_on (L : List R2) (f u t : Int) (h : f < u) (h2 : u ≤ t) : (rng u t).foldl (fun L x => addL L x (x + 1)) (L ++ [(f, u)]) = L ++ [(f, t)] := by
  obtain ⟨n, hn⟩ : ∃ n, (t - u).toNat = n := ⟨_, rfl⟩
  induction n generalizing u with
  | zero => rw [show u = t by omega, rng_nil (Int.le_refl _)]; rfl
  | succ n ih =>
    rw [rng_cons (by omega), List.foldl_cons, addL_touch (by omega) (Int.le_refl _), show max (u + 1) (f, u).2 = u + 1 by show max (u + 1) u = u + 1; omega]
    exact ih (u + 1) (by omega) (by omega) (by omega)
theorem fold_run (L : List R2) (r : R2) (h : Nrm (L ++ [r])) : (rng r.1 r.2).foldl (fun L x => addL L x (x + 1)) L = L ++ [r] := by
  have hr := h.2 r (by simp)
  have e : addL L r.1 (r.1 + 1) = L ++ [(r.1, r.1 + 1)] := by
    rcases snoc_or L with rfl | ⟨k, s, rfl⟩
    · rw [addL_nil (by omega)]; rfl
    · have := h.gap s (by simp) r (by simp)
      exact addL_apart (by omega) (by omega)
  rw [rng_cons hr.2.1, List.foldl_cons, e]
  exact fold_on L r.1 (r.1 + 1) r.2 (by omega) (by omega)
theorem ofL_els {l : List R2} (h : Nrm l) : ofL (els l) = l := by
  obtain ⟨n, hn⟩ : ∃ n, l.length = n := ⟨_, rfl⟩
  induction n generalizing l with
  | zero => rw [List.length_eq_zero_iff.1 hn]; rfl
  | succ n ih =>
    rcases snoc_or l with rfl | ⟨k, r, rfl⟩
    · rfl
    · rw [els_append, els_one]
      show (els k ++ rng r.1 r.2).foldl _ [] = _
      rw [List.foldl_append]
      have : (els k).foldl (fun L x => addL L x (x + 1)) [] = k := ih h.left (by simpa using hn)
      rw [this]
      exact fold_run k r h
theorem runs_ext {l m : List R2} (h : Nrm l) (k : Nrm m) (e : ∀ x, mem l x ↔ mem m x) : l = m := by
  rw [← ofL_els h, ← ofL_els k, srt_ext (els_srt h) (els_srt k) (fun x => by rw [mem_els, mem_els]; exact e x)]

theorem els_ge {l : List R2} (h : Nrm l) : l.length ≤ (els l).length := by
  induction l with
  | nil => exact Nat.zero_le _
  | cons r l ih =>
    have hr : Nrm (([r] : List R2) ++ l) := h
    have h1 := h.2 r (by simp)
    have := ih hr.right
    rw [els_cons, List.length_cons, List.length_append, rng_len]
    omega
theorem elems_len (P : Int → Bool) : (elems P).length ≤ 65536 := by
  have := List.length_filter_le P (rng 0 65536)
  rw [rng_len] at this
  exact this
theorem els_len {l : List R2} (h : Nrm l) : (els l).length ≤ 65536 := by
  have : Is l (fun x => l.any fun r => decide (r.1 ≤ x ∧ x < r.2)) := fun x => by simp [mem]
  rw [this.els h]
  exact elems_len _
theorem runs_len {l : List R2} (h : Nrm l) : l.length ≤ 65536 := Nat.le_trans (els_ge h) (els_len h)
end Go.Proofs.Ytpdidlnbeahanaa
