import Derived.Test.YtjlnfeableleeaaL
namespace Go.Proofs.Ytjlnfeableleeaa
open Go Go.RowKit Go.Shelf Go.Proofs Go.Lib Go.Sort
attribute [local go_sem] Oper.semAt_some
attribute [local go_sem] eql26n eql26f eql32f eql34f eql37f eql42n eql42f wide_fn wide_depth

/-- A loop whose rounds are counted by a number that no slot holds. -/
theorem least (P : Nat → Prop) (h : ∃ n, P n) : ∃ n, P n ∧ ∀ m, P m → n ≤ m := by
  obtain ⟨n, hn⟩ := h
  induction n using Nat.strongRecOn with
  | _ n ih =>
    by_cases hm : ∃ m, m < n ∧ P m
    · obtain ⟨m, hlt, hp⟩ := hm
      exact ih m hlt hp
    · exact ⟨n, hn, fun m hp => by
        rcases Nat.lt_or_ge m n with h | h
        · exact absurd ⟨m, h, hp⟩ hm
        · exact h⟩
open Classical in
noncomputable def leastOf (P : Nat → Prop) : Nat := if h : ∃ n, P n then Classical.choose (least P h) else 0
theorem leastOf_spec {P : Nat → Prop} (h : ∃ n, P n) : P (leastOf P) ∧ ∀ m, P m → leastOf P ≤ m := by
  unfold leastOf
  rw [dif_pos h]
  exact Classical.choose_spec (least P h)
theorem wpIn_loop_ghost {F : Fence} {n : Nat} {P : Program} {c : Code} {Q : Exit → Act → World → Prop} {a : Act} {w : World} (I : Nat → Act → World → Prop) (h0 : ∃ m, I m a w)
    (round : ∀ m a w, I m a w → c.wpIn F n P (Exit.then (fun a' w' => ∃ m', m' < m ∧ I m' a' w') Q) a w) : (Code.loop c).wpIn F n P Q a w := by
  refine wpIn_loop (fun a w => ∃ m, I m a w) (fun a w => leastOf (fun m => I m a w)) h0 fun a w h => ?_
  obtain ⟨h1, _⟩ := leastOf_spec (P := fun m => I m a w) h
  refine wpIn_mono (round _ a w h1) ?_
  rintro e a' w' hq
  cases e with
  | normal =>
    obtain ⟨m', hlt, hi⟩ := hq
    exact ⟨⟨m', hi⟩, Nat.lt_of_le_of_lt ((leastOf_spec (P := fun m => I m a' w') ⟨m', hi⟩).2 m' hi) hlt⟩
  | _ => exact hq

/-! ### What Merge gives, of lists none of which is empty -/
def hd (l : List Int) : Int := l[0]?.getD 0
def Mg (key : Int → Int) : List (List Int) → List Int → Prop
  | L, [] => L = []
  | L, x :: r => ∃ A t B, L = A ++ (x :: t) :: B ∧ (∀ l, l ∈ A → key x < key (hd l)) ∧ (∀ l, l ∈ B → key x ≤ key (hd l)) ∧ Mg key (A ++ (if t = [] then B else t :: B)) r

/-- The list that next tells is the one that gives the next. -/
theorem first_at {key : Int → Int} {L : List Rest} {low : Nat} (hf : First key L low) {x : Int} {A B : List (List Int)} {t : List Int} (hL : L.map Rest.xs = A ++ (x :: t) :: B)
    (hA : ∀ l, l ∈ A → key x < key (hd l)) (hB : ∀ l, l ∈ B → key x ≤ key (hd l)) : low = A.length := by
  obtain ⟨hl, h1, h2⟩ := hf
  have hlen : L.length = A.length + (B.length + 1) := by have := congrArg List.length hL; simpa using this
  have hat : ∀ j (hj : j < L.length), L[j].h = hd ((A ++ (x :: t) :: B)[j]'(by simp; omega)) := fun j hj => by
    have : (L.map Rest.xs)[j]'(by simpa using hj) = (A ++ (x :: t) :: B)[j]'(by simp; omega) := by simp only [hL]
    rw [← this]; simp [Rest.h, hd]
  have hk : L[A.length].h = x := by rw [hat]; simp [hd]
  rcases Nat.lt_trichotomy low A.length with h | h | h
  · exfalso
    have e1 := hat low hl
    rw [List.getElem_append_left (by omega)] at e1
    have := hA _ (List.getElem_mem (by omega : low < A.length))
    rw [← e1] at this
    have := h1 A.length (by omega)
    rw [hk] at this
    omega
  · exact h
  · exfalso
    have := h2 A.length h
    rw [hk] at this
    have e1 := hat low hl
    rw [List.getElem_append_right (by omega)] at e1
    obtain ⟨d, hd'⟩ : ∃ d, low - A.length = d + 1 := ⟨low - A.length - 1, by omega⟩
    simp only [hd', List.getElem_cons_succ] at e1
    have := hB _ (List.getElem_mem (by omega : d < B.length))
    rw [← e1] at this
    omega

/-! ### The row of lists in memory -/
abbrev T3 := Option Addr × Nat × Nat
def enc3 (t : T3) : Value := .slice t.1 t.2.1 t.2.2
def Rest.t (p : Rest) : T3 := (some ⟨p.b, p.o, none⟩, p.xs.length, p.c)
theorem Rest.enc (p : Rest) : enc3 p.t = p.v := rfl
def RowAt (W : World) (g : Nat) (ts : List T3) : Prop := ∀ j (hj : j < ts.length), W.cell? ⟨g, j, none⟩ = some (enc3 ts[j]) ∧ W.frozen? ⟨g, j, none⟩ = false
theorem RowAt.of {W W' : World} {g : Nat} {ts : List T3} (h : RowAt W g ts) (hb : W'.heap[g]? = W.heap[g]?) : RowAt W' g ts := fun j hj =>
  ⟨(World.cell?_of_block (w := W) hb).trans (h j hj).1, (World.frozen?_of_block (w := W) hb).trans (h j hj).2⟩
theorem RowAt.set {W : World} {g : Nat} {ts : List T3} (h : RowAt W g ts) (k : Nat) (hk : k < ts.length) (t : T3) : RowAt (W.setCell ⟨g, k, none⟩ (enc3 t)) g (ts.set k t) := fun j hj => by
  have hj' : j < ts.length := by simpa using hj
  refine ⟨?_, by rw [World.frozen?_setCell]; exact (h j hj').2⟩
  by_cases e : j = k
  · subst e
    rw [World.cell?_setCell_same _ _ _ (h j hj').1]; simp
  · rw [World.cell?_setCell_other _ _ _ _ (fun x => e (by cases x; rfl)), (h j hj').1]
    simp [Ne.symm e]

theorem info22 : (Try.prog.info? 22).map (fun i => (i.zero, i.size, i.bytes)) = some (some (.slice none 0 0), 1, 24) := by kernel_rfl

/-- slices.Delete of one element. -/
theorem delete_any (g cap k : Nat) (ts : List T3) (hk : k < ts.length) (hcap : ts.length ≤ cap) (hm : cap ≤ 9223372036854775807) (W : World) (h : RowAt W g ts) :
    Calls Try.prog 48 #[.slice (some ⟨g, 0, none⟩) ts.length cap, (Value.int .i64 ((k : Int))), (Value.int .i64 (((k + 1 : Nat) : Int)))] W fun e W' =>
      e = .returned (.slice (some ⟨g, 0, none⟩) (ts.length - 1) cap) ∧ RowAt W' g (ts.eraseIdx k) ∧ Chg (fun b => b = g) W W' ∧ W'.heap.size = W.heap.size := by
  obtain ⟨i0, hi, hz0, hz1, hz2⟩ := info_parts info22
  have hH : Holds enc3 W g 0 ts.toArray := fun j hj => by
    have hj' : j < ts.length := by simpa using hj
    have := h j hj'
    rw [Nat.zero_add, show ts.toArray[j]! = ts[j] by simp [hj']]
    exact this
  have h0 := Try.slices_Delete enc3 (fun _ => rfl) (none, 0, 0) (fun w => by exact Try.zeroValue22 w) i0 hi hz1 g 0 cap k (k + 1) ts.toArray W hH (by simpa using hcap) hm (by omega) (by simp; omega)
  rw [show ts.toArray.size = ts.length by simp, show k + 1 - k = 1 by omega] at h0
  refine h0.mono ?_
  rintro e W' ⟨rfl, q, rfl⟩
  have hsz : (ts.take k ++ ts.drop (k + 1) ++ List.replicate 1 ((none, 0, 0) : T3)).toArray.size = ts.toArray.size := by simp; omega
  refine ⟨rfl, fun j hj => ?_, ⟨rfl, rfl, rfl, by simp [Sort.ahead], fun b hb hn => ?_⟩, by simp [Sort.ahead]⟩
  · have hjl : j < ts.length - 1 := by rw [List.length_eraseIdx] at hj; simp [hk] at hj; exact hj
    have hc := cell?_putRow enc3 (Sort.ahead W q) g 0 ts.toArray _ (holds_ahead enc3 W q g 0 _ hH) hsz j (by rw [hsz]; simp; omega)
    rw [Nat.zero_add] at hc
    refine ⟨?_, ?_⟩
    · show (putRow enc3 (Sort.ahead W q) g 0 (ts.take k ++ ts.drop (k + 1) ++ List.replicate 1 ((none, 0, 0) : T3)).toArray).cell? _ = _
      rw [hc]
      congr 1
      have e1 : (ts.eraseIdx k)[j] = (ts.take k ++ ts.drop (k + 1))[j]'(by simp; omega) := by simp only [List.eraseIdx_eq_take_drop_succ]
      rw [e1]
      congr 1
      rw [getElem!_pos _ j (by rw [hsz]; simp; omega)]
      simp only [List.getElem_toArray]
      rw [List.getElem_append_left (by simp; omega)]
    · rw [frozen?_putRow, frozen?_ahead]
      exact (h j (by omega)).2
  · have hn' : g ≠ b := fun e => hn e.symm
    simp [putRow, mapBlock, Sort.ahead, Array.getElem?_modify, hn']

theorem clone46_any (s : Value) (ts : List T3) (B : Nat → Prop) (hlen : ts.length ≤ 1000000) (W : World) (h : Vals W s (ts.map enc3) B) :
    Calls Try.prog 46 #[s] W fun e W' => Below W.heap.size W W' ∧ ((ts = [] ∧ ∃ p c, e = .returned (.slice p 0 c)) ∨ ∃ g c, e = .returned (.slice (some ⟨g, 0, none⟩) ts.length c) ∧ W.heap.size ≤ g ∧ g < W'.heap.size ∧ ts.length ≤ c ∧ c ≤ 9223372036854775807 ∧ RowAt W' g ts) := by
  obtain ⟨i0, hi, hz0, hz1, hz2⟩ := info_parts info22
  rcases h with ⟨rfl, h2⟩ | ⟨b, off, cap, rfl, hb, hx⟩
  · refine (Try.slices_Clone_nil_f46 0 0 W).mono ?_
    rintro e w' ⟨rfl, rfl⟩
    exact ⟨.refl _ _, .inl ⟨by simpa using h2, _, _, rfl⟩⟩
  · rw [List.length_map] at hx ⊢
    refine (Try.slices_Clone_f46 i0 (.slice none 0 0) 1 24 hi hz0 hz1 hz2 rfl (by decide) (by intro w; exact Try.sizeOf22 w) b off ts.length cap (ts.map enc3) W (by simp) (by unfold maxLen; omega) (by omega) ?_ ?_).mono ?_
    · intro j u hj
      have hjl : j < ts.length := by
        rcases Nat.lt_or_ge j ts.length with h | h
        · exact h
        · rw [List.getElem?_eq_none (by simpa using h)] at hj; cases hj
      rw [hx j hjl, hj]; rfl
    · intro u hu
      obtain ⟨t, _, rfl⟩ := List.mem_map.1 hu
      rfl
    · rintro e w' ⟨v', rfl, h1, h2, h3⟩
      refine ⟨h3, ?_⟩
      have hcell := fun g cap (hv : v' = .slice (some ⟨g, 0, none⟩) ts.length cap) j hj => World.ownsRow.cellAt (hv ▸ h1) j hj
      have hfr := fun g cap (hv : v' = .slice (some ⟨g, 0, none⟩) ts.length cap) j => World.ownsRow.frozenAt (hv ▸ h1) j
      have hlt := h1.lt
      rcases h1.2 with ⟨h, _⟩ | ⟨g, cap, cur, hv, hg, hh, hc1, hc2, r⟩
      · exact absurd h h2
      · subst hv
        refine .inr ⟨g, cap, rfl, (hlt g rfl).1, (hlt g rfl).2, hc1, by unfold maxLen at hc2; omega, fun j hj => ⟨?_, hfr g cap rfl j⟩⟩
        rw [hcell g cap rfl j (by omega)]
        simp [hj]
end Go.Proofs.Ytjlnfeableleeaa
