/- Ways in plain: their order, their columns, all of them. Nothing of the program. -/
import Derived.Test.YtmfkkpogmmoflaaGreatEE
import Derived.Lib.Small
import Derived.Lib.Bytealg
import GoSem.Op.String
namespace Go.Proofs.YtmfkkpogmmoflaaGreat
open Go

theorem cb_cases : ∀ a b : List UInt8, (Lib.compareBytes a b = -1 ∧ Op.bytesLess a b = true ∧ a ≠ b) ∨ (Lib.compareBytes a b = 0 ∧ a = b ∧ Op.bytesLess a b = false) ∨ (Lib.compareBytes a b = 1 ∧ Op.bytesLess a b = false ∧ a ≠ b)
  | [], [] => by simp [Lib.compareBytes, Op.bytesLess]
  | [], _ :: _ => by simp [Lib.compareBytes, Op.bytesLess]
  | _ :: _, [] => by simp [Lib.compareBytes, Op.bytesLess]
  | x :: a, y :: b => by
    have ih := cb_cases a b
    unfold Lib.compareBytes Op.bytesLess
    by_cases h : x < y
    · have hne : x ≠ y := by intro e; subst e; simp [UInt8.lt_irrefl] at h
      left; simp [h, hne]
    · by_cases h2 : y < x
      · have hne : x ≠ y := by intro e; subst e; simp [UInt8.lt_irrefl] at h2
        right; right; simp [h, h2, hne]
      · have he : x = y := by
          apply UInt8.toNat_inj.1
          rw [UInt8.lt_iff_toNat_lt] at h h2
          omega
        subst he
        simp [UInt8.lt_irrefl]
        rcases ih with ⟨h1, h3, h4⟩ | ⟨h1, h3, h4⟩ | ⟨h1, h3, h4⟩
        · simp [h1, h3, h4]
        · subst h3; simp [h1, h4]
        · simp [h1, h3, h4]
theorem cb_swap : ∀ a b : List UInt8, Lib.compareBytes a b = - Lib.compareBytes b a
  | [], [] => by simp [Lib.compareBytes]
  | [], _ :: _ => by simp [Lib.compareBytes]
  | _ :: _, [] => by simp [Lib.compareBytes]
  | x :: a, y :: b => by
    have ih := cb_swap a b
    unfold Lib.compareBytes
    by_cases h : x < y
    · have h2 : ¬ y < x := by rw [UInt8.lt_iff_toNat_lt] at *; omega
      simp [h, h2]
    · by_cases h2 : y < x
      · simp [h, h2]
      · simp [h, h2, ih]
theorem cb_trans : ∀ a b c : List UInt8, Lib.compareBytes a b ≤ 0 → Lib.compareBytes b c ≤ 0 → Lib.compareBytes a c ≤ 0
  | [], [], [], _, _ => by simp [Lib.compareBytes]
  | [], _, _ :: _, _, _ => by simp [Lib.compareBytes]
  | [], _ :: _, [], _, h => by simp [Lib.compareBytes] at h
  | _ :: _, [], _, h, _ => by simp [Lib.compareBytes] at h
  | _ :: _, _ :: _, [], _, h => by simp [Lib.compareBytes] at h
  | x :: a, y :: b, z :: c, h1, h2 => by
    have ih := cb_trans a b c
    simp only [Lib.compareBytes, UInt8.lt_iff_toNat_lt] at h1 h2 ⊢
    split at h1
    · split at h2
      · rw [if_pos (by omega)]; omega
      · split at h2
        · omega
        · rw [if_pos (by omega)]; omega
    · split at h1
      · omega
      · split at h2
        · rw [if_pos (by omega)]; omega
        · split at h2
          · omega
          · rw [if_neg (by omega), if_neg (by omega)]; exact ih h1 h2

/-! ### Names; ways -/
def cmpS (a b : ByteArray) : Int := Lib.compareBytes a.data.toList b.data.toList
theorem toL_inj {a b : ByteArray} (h : a.data.toList = b.data.toList) : a = b := by
  cases a; cases b
  congr 1
  exact Array.toList_inj.1 h
theorem cmpS_zero {a b : ByteArray} : cmpS a b = 0 ↔ a = b := by
  unfold cmpS
  constructor
  · intro h
    rcases cb_cases a.data.toList b.data.toList with ⟨h1, _, _⟩ | ⟨_, h1, _⟩ | ⟨h1, _, _⟩
    · omega
    · exact toL_inj h1
    · omega
  · rintro rfl
    rcases cb_cases a.data.toList a.data.toList with ⟨_, _, h1⟩ | ⟨h1, _, _⟩ | ⟨_, _, h1⟩
    · exact absurd rfl h1
    · exact h1
    · exact absurd rfl h1
theorem cmpS_range (a b : ByteArray) : cmpS a b = -1 ∨ cmpS a b = 0 ∨ cmpS a b = 1 := by
  unfold cmpS
  rcases cb_cases a.data.toList b.data.toList with ⟨h1, _, _⟩ | ⟨h1, _, _⟩ | ⟨h1, _, _⟩ <;> simp [h1]
theorem cmpS_swap (a b : ByteArray) : cmpS a b = - cmpS b a := cb_swap _ _
theorem cmpS_trans {a b c : ByteArray} : cmpS a b ≤ 0 → cmpS b c ≤ 0 → cmpS a c ≤ 0 := cb_trans _ _ _
def cmpP : List ByteArray → List ByteArray → Int
  | [], [] => 0
  | [], _ :: _ => -1
  | _ :: _, [] => 1
  | x :: a, y :: b => if cmpS x y = 0 then cmpP a b else cmpS x y
theorem cmpP_range : ∀ a b : List ByteArray, cmpP a b = -1 ∨ cmpP a b = 0 ∨ cmpP a b = 1
  | [], [] => by simp [cmpP]
  | [], _ :: _ => by simp [cmpP]
  | _ :: _, [] => by simp [cmpP]
  | x :: a, y :: b => by
    unfold cmpP
    split
    · exact cmpP_range a b
    · exact cmpS_range x y
theorem cmpP_zero : ∀ {a b : List ByteArray}, cmpP a b = 0 ↔ a = b
  | [], [] => by simp [cmpP]
  | [], _ :: _ => by simp [cmpP]
  | _ :: _, [] => by simp [cmpP]
  | x :: a, y :: b => by
    unfold cmpP
    split
    · rename_i h
      rw [cmpS_zero] at h
      rw [cmpP_zero, h]; simp
    · rename_i h
      simp only [List.cons.injEq, h, false_iff, not_and]
      intro e
      exact absurd (cmpS_zero.2 e) h
theorem cmpP_self (a : List ByteArray) : cmpP a a = 0 := cmpP_zero.2 rfl
theorem cmpP_swap : ∀ a b : List ByteArray, cmpP a b = - cmpP b a
  | [], [] => by simp [cmpP]
  | [], _ :: _ => by simp [cmpP]
  | _ :: _, [] => by simp [cmpP]
  | x :: a, y :: b => by
    have ih := cmpP_swap a b
    have h := cmpS_swap x y
    unfold cmpP
    by_cases h1 : cmpS x y = 0
    · rw [if_pos h1, if_pos (by omega), ih]
    · rw [if_neg h1, if_neg (by omega), h]
theorem cmpP_trans : ∀ {a b c : List ByteArray}, cmpP a b ≤ 0 → cmpP b c ≤ 0 → cmpP a c ≤ 0
  | [], _, [], _, _ => by simp [cmpP]
  | [], _, _ :: _, _, _ => by simp [cmpP]
  | _ :: _, [], _, h, _ => by simp [cmpP] at h
  | _ :: _, _ :: _, [], _, h => by simp [cmpP] at h
  | x :: a, y :: b, z :: c, h1, h2 => by
    have ih := @cmpP_trans a b c
    unfold cmpP at h1 h2 ⊢
    by_cases e1 : cmpS x y = 0
    · rw [if_pos e1] at h1
      rw [cmpS_zero] at e1
      subst e1
      by_cases e2 : cmpS x z = 0
      · rw [if_pos e2] at h2 ⊢
        exact ih h1 h2
      · rw [if_neg e2] at h2 ⊢
        exact h2
    · rw [if_neg e1] at h1
      by_cases e2 : cmpS y z = 0
      · rw [cmpS_zero] at e2
        subst e2
        rw [if_neg e1]; exact h1
      · rw [if_neg e2] at h2
        have h3 := cmpS_trans h1 h2
        by_cases e3 : cmpS x z = 0
        · rw [cmpS_zero] at e3
          subst e3
          have := cmpS_swap x y
          omega
        · rw [if_neg e3]; exact h3
theorem cmpP_snoc : ∀ (a : List ByteArray) (x : ByteArray), cmpP a (a ++ [x]) = -1
  | [], x => rfl
  | y :: a, x => by
    show (if cmpS y y = 0 then cmpP a (a ++ [x]) else cmpS y y) = -1
    rw [if_pos (cmpS_zero.2 rfl)]
    exact cmpP_snoc a x
theorem cmpP_at {a b : List ByteArray} {j : Nat} (ha : j < a.length) (hb : j < b.length) : cmpP (a.drop j) (b.drop j) = if cmpS a[j] b[j] = 0 then cmpP (a.drop (j + 1)) (b.drop (j + 1)) else cmpS a[j] b[j] := by
  rw [List.drop_eq_getElem_cons ha, List.drop_eq_getElem_cons hb]
  rfl
theorem cmpP_long {a b : List ByteArray} {j : Nat} (ha : j < a.length) (hb : b.length ≤ j) : cmpP (a.drop j) (b.drop j) = 1 := by
  rw [List.drop_eq_getElem_cons ha, List.drop_of_length_le hb]
  rfl
theorem cmpP_short {a b : List ByteArray} {j : Nat} (ha : a.length ≤ j) (hb : j < b.length) : cmpP (a.drop j) (b.drop j) = -1 := by
  rw [List.drop_eq_getElem_cons hb, List.drop_of_length_le ha]
  rfl
theorem cmpP_done {a b : List ByteArray} {j : Nat} (ha : a.length ≤ j) (hb : b.length ≤ j) : cmpP (a.drop j) (b.drop j) = 0 := by
  rw [List.drop_of_length_le ha, List.drop_of_length_le hb]
  rfl

/-! ### A way's column -/
def colsAt (ts : List T) (tb : ByteArray) : List C := (orT (findT ts tb)).cols
def pcol (ts : List T) : ByteArray → List ByteArray → C × ByteArray × Int
  | _, [] => (zeroC, e0, 3)
  | tb, x :: r => if hasC (colsAt ts tb) x = true then (if r.isEmpty = true then (orC (colOf (colsAt ts tb) x), tb, 0) else if eqS (orC (colOf (colsAt ts tb) x)).tgt e0 = true then (zeroC, e0, 9) else pcol ts (orC (colOf (colsAt ts tb) x)).tgt r) else (zeroC, e0, 3)
def pcolL (ts : List T) (tb : ByteArray) (p : List ByteArray) : C × ByteArray × Int := if p.length < 1 ∨ 4 < p.length then (zeroC, e0, 5) else pcol ts tb p
theorem pcol_at (ts : List T) (tb : ByteArray) (p : List ByteArray) {j : Nat} (hj : j < p.length) : pcol ts tb (p.drop j) = if hasC (colsAt ts tb) p[j] = true then (if j + 1 = p.length then (orC (colOf (colsAt ts tb) p[j]), tb, 0) else if eqS (orC (colOf (colsAt ts tb) p[j])).tgt e0 = true then (zeroC, e0, 9) else pcol ts (orC (colOf (colsAt ts tb) p[j])).tgt (p.drop (j + 1))) else (zeroC, e0, 3) := by
  rw [List.drop_eq_getElem_cons hj]
  rw [pcol]
  by_cases h : j + 1 = p.length
  · have e : (p.drop (j + 1)).isEmpty = true := by rw [List.drop_of_length_le (by omega)]; rfl
    rw [if_pos h, if_pos e]
  · have e : ¬ (p.drop (j + 1)).isEmpty = true := by
      rw [List.isEmpty_iff]
      intro e
      have := congrArg List.length e
      simp only [List.length_drop, List.length_nil] at this
      omega
    rw [if_neg h, if_neg e]

/-! ### All ways -/
def waysP (ts : List T) : Nat → ByteArray → List ByteArray → List (List ByteArray)
  | 0, _, _ => []
  | n + 1, tb, a => (colsAt ts tb).flatMap fun c => (a ++ [c.nm]) :: waysP ts n c.tgt (a ++ [c.nm])
/-- What holds of tables that may be. -/
structure Nice (ts : List T) : Prop where
  nm : ∀ t ∈ ts, named t.nm = true
  col : ∀ t ∈ ts, (t.cols.map C.nm).Nodup
  tgt : ∀ t ∈ ts, ∀ c ∈ t.cols, c.tgt = e0 ∨ ∃ u, findT ts c.tgt = some u
  few : ∀ t ∈ ts, t.cols.length ≤ 6
theorem Nice.nil : Nice [] := ⟨by simp, by simp, by simp, by simp⟩
theorem nodup_of_good {l : List C} (h : colsGood l = true) : (l.map C.nm).Nodup := by
  unfold colsGood at h
  rw [List.all_eq_true] at h
  rw [List.nodup_iff_pairwise_ne, List.pairwise_iff_getElem]
  intro i j hi hj hij
  rw [List.length_map] at hi hj
  have := h j (List.mem_range.2 hj)
  unfold colGood at this
  rw [List.getElem?_eq_getElem hj] at this
  simp only [Bool.and_eq_true, Bool.not_eq_true'] at this
  have h2 := this.2
  unfold hasC at h2
  rw [List.any_eq_false] at h2
  have h3 := h2 l[i] (by rw [List.mem_take_iff_getElem]; exact ⟨i, by omega, rfl⟩)
  rw [List.getElem_map, List.getElem_map]
  intro e
  exact h3 (by unfold isC; rw [eqS_iff]; exact e)
theorem leads_zero {ts : List T} {c : C} (h : leads ts c = 0) : c.tgt = e0 ∨ ∃ u, findT ts c.tgt = some u := by
  unfold leads at h
  split at h
  · rename_i h1
    exact .inl (eqS_iff.1 h1)
  · right
    cases hf : findT ts c.tgt with
    | none => rw [hf] at h; simp at h
    | some u => exact ⟨u, rfl⟩
theorem firstErr_zero : ∀ {l : List Int}, firstErr l = 0 → ∀ x ∈ l, x = 0
  | [], _, x, hx => by simp at hx
  | a :: r, h, x, hx => by
    unfold firstErr at h
    split at h
    · rename_i h0
      rcases List.mem_cons.1 hx with rfl | hx
      · exact h0
      · exact firstErr_zero h x hx
    · rename_i h0
      exact absurd h h0
theorem Nice.add {ts : List T} (h : Nice ts) (t : T) : Nice (addT ts t) := by
  unfold addT
  split
  · rename_i h0
    obtain ⟨h1, h2, _, h4⟩ := mayP_zero h0
    unfold lim at h1
    unfold namesGood at h2
    simp only [Bool.or_eq_false_iff, decide_eq_false_iff_not] at h1
    simp only [Bool.and_eq_true] at h2
    obtain ⟨f1, f2, f3, f4⟩ := h2
    unfold free at f1
    simp only [Bool.and_eq_true, Bool.not_eq_true'] at f1
    have key : ∀ u ∈ ts ++ [formT t], u ∈ ts ∨ u = formT t := fun u hu => by
      rw [List.mem_append, List.mem_singleton] at hu; exact hu
    refine ⟨fun u hu => ?_, fun u hu => ?_, fun u hu c hc => ?_, fun u hu => ?_⟩
    · rcases key u hu with hu | rfl
      · exact h.nm u hu
      · exact f1.1
    · rcases key u hu with hu | rfl
      · exact h.col u hu
      · have e : (formT t).cols.map C.nm = t.cols.map C.nm := by
          unfold formT
          simp only [List.map_map]
          rfl
        rw [e]
        exact nodup_of_good f2
    · have lift : (c.tgt = e0 ∨ ∃ u, findT ts c.tgt = some u) → (c.tgt = e0 ∨ ∃ u, findT (ts ++ [formT t]) c.tgt = some u) := fun h => h.imp id (fun ⟨u, hu⟩ => ⟨u, find_append_old hu⟩)
      rcases key u hu with hu | rfl
      · exact lift (h.tgt u hu c hc)
      · obtain ⟨c', hc', rfl⟩ := List.mem_map.1 hc
        exact lift (leads_zero (firstErr_zero h4 _ (List.mem_map_of_mem hc')) : c'.tgt = e0 ∨ _)
    · rcases key u hu with hu | rfl
      · exact h.few u hu
      · unfold formT
        simp only [List.length_map]
        omega
  · exact h
theorem Nice.kept : ∀ {l ts : List T}, Nice ts → Nice (l.foldl addT ts)
  | [], _, h => h
  | t :: r, _, h => Nice.kept (l := r) (h.add t)
theorem Nice.none {ts : List T} (h : Nice ts) : findT ts e0 = none := by
  unfold findT
  rw [List.find?_eq_none]
  intro t ht
  unfold isT
  rw [named_ne (h.nm t ht)]; decide
theorem Nice.cols {ts : List T} (h : Nice ts) (tb : ByteArray) : ((colsAt ts tb).map C.nm).Nodup ∧ (colsAt ts tb).length ≤ 6 ∧ ∀ c ∈ colsAt ts tb, c.tgt = e0 ∨ ∃ u, findT ts c.tgt = some u := by
  unfold colsAt orT
  cases hf : findT ts tb with
  | none => simp [zeroT]
  | some t =>
    have hm := List.mem_of_find?_eq_some hf
    exact ⟨h.col t hm, h.few t hm, h.tgt t hm⟩
theorem Nice.noCols {ts : List T} (h : Nice ts) : colsAt ts e0 = [] := by
  unfold colsAt
  rw [h.none]; rfl
/-- A column is found by its name. -/
theorem col_by {l : List C} (h : (l.map C.nm).Nodup) : ∀ {c : C}, c ∈ l → colOf l c.nm = some c ∧ hasC l c.nm = true := by
  induction l with
  | nil => intro c hc; simp at hc
  | cons a r ih =>
    intro c hc
    rw [List.map_cons, List.nodup_cons] at h
    have hself : hasC (a :: r) c.nm = true := by
      unfold hasC
      rw [List.any_eq_true]
      exact ⟨c, hc, by unfold isC; exact eqS_self _⟩
    refine ⟨?_, hself⟩
    unfold colOf
    rw [List.find?_cons]
    rcases List.mem_cons.1 hc with rfl | hc
    · have e : isC c.nm c = true := eqS_self _
      rw [e]
    · have e : isC c.nm a = false := by
        unfold isC
        rw [Bool.eq_false_iff]
        intro e
        rw [eqS_iff] at e
        exact h.1 (by rw [e]; exact List.mem_map_of_mem hc)
      rw [e]
      exact (ih h.2 hc).1
theorem col_has {l : List C} {x : ByteArray} (h : hasC l x = true) : ∃ c ∈ l, c.nm = x ∧ orC (colOf l x) = c := by
  have hc : (colOf l x).isSome = true := by unfold colOf; rw [← find_any]; exact h
  obtain ⟨c, hc⟩ := Option.isSome_iff_exists.1 hc
  have h1 := List.find?_some hc
  unfold isC at h1
  exact ⟨c, List.mem_of_find?_eq_some hc, eqS_iff.1 h1, by rw [hc]; rfl⟩
theorem pcol_no {ts : List T} {tb : ByteArray} (h : colsAt ts tb = []) (q : List ByteArray) : (pcol ts tb q).2.2 ≠ 0 := by
  cases q with
  | nil => simp [pcol]
  | cons x r => unfold pcol; rw [h]; simp [hasC]
theorem mem_ways {ts : List T} (hN : Nice ts) : ∀ (n : Nat) (tb : ByteArray) (a x : List ByteArray), x ∈ waysP ts n tb a ↔ ∃ q, x = a ++ q ∧ 1 ≤ q.length ∧ q.length ≤ n ∧ (pcol ts tb q).2.2 = 0
  | 0, tb, a, x => by
    constructor
    · intro h; simp [waysP] at h
    · rintro ⟨q, _, h1, h2, _⟩; omega
  | n + 1, tb, a, x => by
    unfold waysP
    rw [List.mem_flatMap]
    constructor
    · rintro ⟨c, hc, hx⟩
      obtain ⟨h1, h2⟩ := col_by (hN.cols tb).1 hc
      rcases List.mem_cons.1 hx with rfl | hx
      · refine ⟨[c.nm], rfl, Nat.le_refl _, by simp, ?_⟩
        unfold pcol
        rw [if_pos h2]; rfl
      · obtain ⟨q, rfl, q1, q2, q3⟩ := (mem_ways hN n _ _ _).1 hx
        refine ⟨c.nm :: q, by simp, by simp, by simpa using q2, ?_⟩
        have hne : ¬ eqS c.tgt e0 = true := fun e => by
          rw [eqS_iff] at e
          rw [e] at q3
          exact pcol_no hN.noCols q q3
        cases q with
        | nil => simp at q1
        | cons y r =>
          unfold pcol
          rw [if_pos h2, h1]
          show (if (y :: r).isEmpty = true then (c, tb, (0 : Int)) else if eqS c.tgt e0 = true then (zeroC, e0, 9) else pcol ts c.tgt (y :: r)).2.2 = 0
          rw [if_neg (by simp), if_neg hne]
          exact q3
    · rintro ⟨q, rfl, q1, q2, q3⟩
      cases q with
      | nil => simp at q1
      | cons y r =>
        unfold pcol at q3
        by_cases h : hasC (colsAt ts tb) y = true
        · rw [if_pos h] at q3
          obtain ⟨c, hc, hnm, ho⟩ := col_has h
          subst hnm
          refine ⟨c, hc, ?_⟩
          rw [List.mem_cons]
          cases r with
          | nil => exact .inl rfl
          | cons z r =>
            right
            rw [ho, if_neg (by simp)] at q3
            by_cases he : eqS c.tgt e0 = true
            · rw [if_pos he] at q3; simp at q3
            · rw [if_neg he] at q3
              exact (mem_ways hN n _ _ _).2 ⟨z :: r, by simp, by simp, by simpa using q2, q3⟩
        · rw [if_neg h] at q3; simp at q3
theorem nodup_flat {α β : Type} (f : α → List β) : ∀ (l : List α), (∀ x ∈ l, (f x).Nodup) → l.Pairwise (fun x y => ∀ b, b ∈ f x → b ∉ f y) → (l.flatMap f).Nodup
  | [], _, _ => by simp
  | a :: r, h, hp => by
    rw [List.pairwise_cons] at hp
    rw [List.flatMap_cons, List.nodup_append]
    refine ⟨h a (by simp), nodup_flat f r (fun x hx => h x (by simp [hx])) hp.2, ?_⟩
    intro x hx y hy e
    subst e
    rw [List.mem_flatMap] at hy
    obtain ⟨z, hz, hxz⟩ := hy
    exact hp.1 z hz x hx hxz
theorem ways_form {ts : List T} (hN : Nice ts) {n : Nat} {tb : ByteArray} {a : List ByteArray} {c : C} {x : List ByteArray} (hx : x ∈ (a ++ [c.nm]) :: waysP ts n tb (a ++ [c.nm])) : ∃ r, x = a ++ c.nm :: r := by
  rcases List.mem_cons.1 hx with rfl | hx
  · exact ⟨[], rfl⟩
  · obtain ⟨q, rfl, _⟩ := (mem_ways hN _ _ _ _).1 hx
    exact ⟨q, by simp⟩
theorem nodup_ways {ts : List T} (hN : Nice ts) : ∀ (n : Nat) (tb : ByteArray) (a : List ByteArray), (waysP ts n tb a).Nodup
  | 0, _, _ => by simp [waysP]
  | n + 1, tb, a => by
    unfold waysP
    refine nodup_flat _ _ (fun c _ => ?_) ?_
    · rw [List.nodup_cons]
      refine ⟨fun hm => ?_, nodup_ways hN n _ _⟩
      obtain ⟨q, e, h1, _⟩ := (mem_ways hN _ _ _ _).1 hm
      have := congrArg List.length e
      rw [List.length_append (bs := q)] at this
      omega
    · have := (hN.cols tb).1
      rw [List.nodup_iff_pairwise_ne, List.pairwise_map] at this
      refine this.imp ?_
      intro c d hne x hx hy
      obtain ⟨r, rfl⟩ := ways_form hN hx
      obtain ⟨r', e⟩ := ways_form hN hy
      have := List.append_cancel_left e
      simp only [List.cons.injEq] at this
      exact hne this.1
def manyW : Nat → Nat
  | 0 => 0
  | n + 1 => 6 * (1 + manyW n)
theorem sum_le {α : Type} (f : α → Nat) (m : Nat) : ∀ (l : List α), (∀ x ∈ l, f x ≤ m) → (l.map f).sum ≤ l.length * m
  | [], _ => by simp
  | a :: r, h => by
    rw [List.map_cons, List.sum_cons, List.length_cons, Nat.add_mul]
    have h1 := h a (by simp)
    have h2 := sum_le f m r (fun x hx => h x (by simp [hx]))
    omega
theorem ways_len {ts : List T} (hN : Nice ts) : ∀ (n : Nat) (tb : ByteArray) (a : List ByteArray), (waysP ts n tb a).length ≤ manyW n
  | 0, _, _ => by simp [waysP]
  | n + 1, tb, a => by
    unfold waysP manyW
    rw [List.length_flatMap]
    refine Nat.le_trans (sum_le _ (1 + manyW n) _ (fun c _ => ?_)) (Nat.mul_le_mul_right _ (hN.cols tb).2.1)
    rw [List.length_cons]
    have := ways_len hN n c.tgt (a ++ [c.nm])
    omega
/-- Two rows in order that hold the same are the same. -/
theorem ext_sorted : ∀ {l k : List (List ByteArray)}, l.Pairwise (fun a b => cmpP a b < 0) → k.Pairwise (fun a b => cmpP a b < 0) → (∀ x, x ∈ l ↔ x ∈ k) → l = k
  | [], [], _, _, _ => rfl
  | [], b :: k, _, _, h => by have := (h b).2 (by simp); simp at this
  | a :: l, [], _, _, h => by have := (h a).1 (by simp); simp at this
  | a :: l, b :: k, hl, hk, h => by
    rw [List.pairwise_cons] at hl hk
    have hab : a = b := by
      have h1 := (h a).1 (by simp)
      have h2 := (h b).2 (by simp)
      rcases List.mem_cons.1 h1 with rfl | h1
      · rfl
      · rcases List.mem_cons.1 h2 with rfl | h2
        · rfl
        · have e1 := hk.1 a h1
          have e2 := hl.1 b h2
          have := cmpP_swap a b
          omega
    subst hab
    have nl : a ∉ l := fun hm => by have := hl.1 a hm; rw [cmpP_self] at this; omega
    have nk : a ∉ k := fun hm => by have := hk.1 a hm; rw [cmpP_self] at this; omega
    rw [ext_sorted hl.2 hk.2 (fun x => ?_)]
    have hx := h x
    simp only [List.mem_cons] at hx
    constructor
    · intro hm
      rcases hx.1 (.inr hm) with rfl | h
      · exact absurd hm nl
      · exact h
    · intro hm
      rcases hx.2 (.inr hm) with rfl | h
      · exact absurd hm nk
      · exact h
/-- All ways of a table, in order. -/
def IsAll (ts : List T) (tb : ByteArray) (l : List (List ByteArray)) : Prop := l.Pairwise (fun a b => cmpP a b < 0) ∧ l.Perm (waysP ts 4 tb [])
theorem IsAll.one {ts : List T} {tb : ByteArray} {l k : List (List ByteArray)} (h : IsAll ts tb l) (g : IsAll ts tb k) : l = k :=
  ext_sorted h.1 g.1 (fun x => by rw [h.2.mem_iff, g.2.mem_iff])
theorem IsAll.mem {ts : List T} (hN : Nice ts) {tb : ByteArray} {l : List (List ByteArray)} (h : IsAll ts tb l) (p : List ByteArray) : p ∈ l ↔ (pcolL ts tb p).2.2 = 0 := by
  rw [h.2.mem_iff, mem_ways hN]
  unfold pcolL
  constructor
  · rintro ⟨q, hq, h1, h2, h3⟩
    have hq : p = q := hq
    subst hq
    rw [if_neg (by omega)]; exact h3
  · intro h3
    by_cases hl : p.length < 1 ∨ 4 < p.length
    · rw [if_pos hl] at h3; simp at h3
    · rw [if_neg hl] at h3
      exact ⟨p, rfl, by omega, by omega, h3⟩
end Go.Proofs.YtmfkkpogmmoflaaGreat
