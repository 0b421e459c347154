/- ColumnAll: what is needed of lists. -/
import Derived.Test.YtglfmbpcapendaaN2b
namespace Go.Proofs.Ytglfmbpcapendaa.S
open Go Go.RowKit Go.Shelf Go.Proofs Go.Proofs.Ytglfmbpcapendaa

def eqT (y x : T3) : Bool := eqV y.1 y.2.1 y.2.2 x.1 x.2.1 x.2.2
/-- A text that is like none of m. -/
def nw (x : T3) (m : List T3) : Bool := (x.1 == 2) && m.all (fun y => !eqT y x)
theorem nw_nil (x : T3) : nw x [] = (x.1 == 2) := by simp [nw]
theorem nw_snoc (x y : T3) (m : List T3) : nw x (m ++ [y]) = (nw x m && !eqT y x) := by simp [nw, Bool.and_assoc]
def dw (l : List T3) : Nat → List (K 12)
  | 0 => []
  | i + 1 => if h : i < l.length then (if nw l[i] (l.take i) then dw l i ++ [wd (l[i]).2.2] else dw l i) else dw l i
theorem dw_succ (l : List T3) (i : Nat) (h : i < l.length) : (dw l (i + 1)).length = (dw l i).length + if nw l[i] (l.take i) then 1 else 0 := by
  rw [dw, dif_pos h]
  split <;> simp
theorem dw_le (l : List T3) : ∀ i, (dw l i).length ≤ i
  | 0 => Nat.le_refl _
  | i + 1 => by
    have := dw_le l i
    by_cases h : i < l.length
    · rw [dw_succ l i h]; split <;> omega
    · rw [dw, dif_neg h]; omega
theorem nul_succ (l : List T3) (i : Nat) (h : i < l.length) : nz (l.take (i + 1)) = nz (l.take i) + if (l[i]).1 = 0 then 1 else 0 := by
  rw [List.take_succ_eq_append_getElem h]
  unfold nz
  rw [List.map_append, List.sum_append, List.map_cons, List.map_nil, List.sum_cons, List.sum_nil]
  rfl
theorem inC_text {kind : Int} {x : T3} (h : inC kind x = true) (h2 : x.1 = 2) : x.2.1 = 0 ∧ x.2.2.size ≤ 12 := by
  refine ⟨?_, inC_size h h2⟩
  unfold inC at h
  rw [Bool.and_eq_true] at h
  have h := h.1
  unfold mayV at h
  rw [h2] at h
  simp at h
  exact h.1
theorem dw_mem {kind : Int} {l : List T3} (hok : ∀ x ∈ l, inC kind x = true) (s : K 12) : ∀ i, i ≤ l.length → (s ∈ dw l i ↔ ∃ x ∈ l.take i, x.1 = 2 ∧ wd x.2.2 = s)
  | 0, _ => by simp [dw]
  | i + 1, h => by
    have hi : i < l.length := by omega
    have ih := dw_mem hok s i (by omega)
    rw [dw, dif_pos hi, List.take_succ_eq_append_getElem hi]
    by_cases hn : nw l[i] (l.take i) = true
    · rw [if_pos hn, List.mem_append, ih]
      have h2 : (l[i]).1 = 2 := by
        unfold nw at hn
        rw [Bool.and_eq_true] at hn
        simpa using hn.1
      constructor
      · rintro (⟨x, hx, hp⟩ | hs)
        · exact ⟨x, List.mem_append_left _ hx, hp⟩
        · exact ⟨l[i], List.mem_append_right _ (List.mem_singleton.2 rfl), h2, (List.mem_singleton.1 hs).symm⟩
      · rintro ⟨x, hx, hp, hq⟩
        rcases List.mem_append.1 hx with hx | hx
        · exact .inl ⟨x, hx, hp, hq⟩
        · rw [List.mem_singleton] at hx
          subst hx
          exact .inr (by simp [hq])
    · rw [if_neg hn, ih]
      constructor
      · rintro ⟨x, hx, hp⟩
        exact ⟨x, List.mem_append_left _ hx, hp⟩
      · rintro ⟨x, hx, hp, hq⟩
        rcases List.mem_append.1 hx with hx | hx
        · exact ⟨x, hx, hp, hq⟩
        · rw [List.mem_singleton] at hx
          have hp' : (l[i]).1 = 2 := hx ▸ hp
          have : ∃ y ∈ l.take i, eqT y l[i] = true := by
            apply Classical.byContradiction
            intro hno
            refine hn ?_
            unfold nw
            rw [Bool.and_eq_true, List.all_eq_true]
            refine ⟨by simp [hp'], fun y hy => ?_⟩
            rw [Bool.not_eq_true']
            exact Bool.eq_false_iff.2 (fun he => hno ⟨y, hy, he⟩)
          obtain ⟨y, hy, he⟩ := this
          unfold eqT eqV at he
          rw [decide_eq_true_eq] at he
          exact ⟨y, hy, he.1.trans hp', by rw [he.2.2, ← hx, hq]⟩
theorem dw_nodup {kind : Int} {l : List T3} (hok : ∀ x ∈ l, inC kind x = true) : ∀ i, i ≤ l.length → (dw l i).Nodup
  | 0, _ => by simp [dw]
  | i + 1, h => by
    have hi : i < l.length := by omega
    have ih := dw_nodup hok i (by omega)
    rw [dw, dif_pos hi]
    by_cases hn : nw l[i] (l.take i) = true
    · rw [if_pos hn]
      refine List.nodup_append.2 ⟨ih, by simp, fun a ha b hb e => ?_⟩
      rw [List.mem_singleton] at hb
      subst hb
      subst e
      obtain ⟨x, hx, hp, hq⟩ := (dw_mem hok _ i (by omega)).1 ha
      unfold nw at hn
      rw [Bool.and_eq_true, List.all_eq_true] at hn
      have h2 : (l[i]).1 = 2 := by simpa using hn.1
      have hxl : x ∈ l := List.mem_of_mem_take hx
      obtain ⟨a1, a2⟩ := inC_text (hok x hxl) hp
      obtain ⟨b1, b2⟩ := inC_text (hok l[i] (List.getElem_mem _)) h2
      have := hn.2 x hx
      unfold eqT eqV at this
      rw [Bool.not_eq_true', decide_eq_false_iff_not] at this
      exact this ⟨hp.trans h2.symm, a1.trans b1.symm, wd_inj a2 b2 hq⟩
    · rw [if_neg hn]; exact ih
/-- What a value becomes. -/
def cutT (x : T3) : T3 := (x.1, x.2.1, cutB 20 x.2.2)
theorem size_cutT (x : T3) : (cutT x).2.2.size ≤ maxLen := Nat.le_trans (cutB_le 20 x.2.2) (by decide)
theorem app_val (y : World) (base : Nat) {v : Value} {l : List T3} (hr : HRow y base 28 3 v l.length (cells3 l)) (hm : l.length + 1 ≤ 1000000) (hb : base ≤ y.heap.size) (x : T3) :
    ∃ g cap w', (Builtin.append_ #[26, 26] 26 #[v, .slice (some ⟨y.heap.size, 0, none⟩) 1 1]).run Try.prog (y.alloc (.cells #[.int .i64 x.1, .int .i64 x.2.1, .string x.2.2] 28)) = .ok (.slice (some ⟨g, 0, none⟩) (l.length + 1) cap) w' ∧
      HRow w' base 28 3 (.slice (some ⟨g, 0, none⟩) (l.length + 1) cap) (l ++ [x]).length (cells3 (l ++ [x])) ∧ y.grownBy w' v.ownBlock ∧ (v.ownBlock = some g ∨ y.heap.size ≤ g) := by
  obtain ⟨g, cap, w', h1, h2, h3, h4⟩ := app_one y base hr hm hb x.1 x.2.1 x.2.2
  have hl : (l ++ [x]).length = l.length + 1 := by simp
  have hc : cells3 (l ++ [x]) = cells3 l ++ [.int .i64 x.1, .int .i64 x.2.1, .string x.2.2] := by rw [cells3_append]; simp [cells3]
  refine ⟨g, cap, w', h1, by rw [hl, hc]; exact h2, ⟨h3.os, h3.tape, h3.output, Nat.le_trans (by simp) h3.size, fun q hq hne => (h3.block q (by simp; omega) hne).trans ((below_alloc y _).block q hq)⟩, h4⟩
end Go.Proofs.Ytglfmbpcapendaa.S
