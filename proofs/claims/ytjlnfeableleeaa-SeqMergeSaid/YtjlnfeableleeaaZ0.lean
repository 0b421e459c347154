import Derived.Test.YtjlnfeableleeaaW0
import Derived.Test.YtjlnfeableleeaaP
namespace Go.Proofs.Ytjlnfeableleeaa
open Go Go.RowKit Go.Shelf Go.Proofs

/-! ### Insertion, in lists -/
def key10 (a : Int) : Int := wrap64 (a.tdiv 10)
def nel (l : List Int) : List (List Int) := if l = [] then [] else [l]
def Asc (key : Int → Int) (l : List Int) : Prop := l.Pairwise (fun a b => key a ≤ key b)
def Ins (key : Int → Int) (x : Int) (l l' : List Int) : Prop := ∃ A B, l = A ++ B ∧ l' = A ++ x :: B ∧ (∀ b, b ∈ B → key x < key b) ∧ (∀ A0 a, A = A0 ++ [a] → key a ≤ key x)
theorem Asc.last {key : Int → Int} {A : List Int} (h : Asc key A) {x : Int} (hx : ∀ A0 a, A = A0 ++ [a] → key a ≤ key x) : ∀ a, a ∈ A → key a ≤ key x := by
  intro a ha
  rcases List.eq_nil_or_concat A with rfl | ⟨A0, z, rfl⟩
  · cases ha
  · have hz := hx A0 z (by simp)
    simp only [List.mem_append, List.mem_singleton, List.concat_eq_append] at ha
    rcases ha with ha | rfl
    · unfold Asc at h
      rw [List.concat_eq_append, List.pairwise_append] at h
      have := h.2.2 a ha z (by simp)
      omega
    · exact hz
theorem Ins.asc {key : Int → Int} {x : Int} {l l' : List Int} (h : Ins key x l l') (hl : Asc key l) : Asc key l' := by
  obtain ⟨A, B, rfl, rfl, hB, hA⟩ := h
  unfold Asc at hl ⊢
  rw [List.pairwise_append] at hl
  have hA' := Asc.last (key := key) (A := A) hl.1 hA
  rw [List.pairwise_append, List.pairwise_cons]
  refine ⟨hl.1, ⟨fun b hb => Int.le_of_lt (hB b hb), hl.2.1⟩, fun a ha b hb => ?_⟩
  rcases List.mem_cons.1 hb with rfl | hb
  · exact hA' a ha
  · exact hl.2.2 a ha b hb
theorem Ins.len {key : Int → Int} {x : Int} {l l' : List Int} (h : Ins key x l l') : l'.length = l.length + 1 := by
  obtain ⟨A, B, rfl, rfl, _⟩ := h
  simp; omega
theorem asc_nil (key : Int → Int) : Asc key [] := List.Pairwise.nil
/-- What is left where the search ends. -/
theorem ins_at {key : Int → Int} {x : Int} {l : List Int} {a : Nat} (ha : a ≤ l.length) (hB : ∀ b, b ∈ l.drop a → key x < key b) (hA : ∀ c, a = c + 1 → ∀ (hc : c < l.length), key l[c] ≤ key x) : Ins key x l (l.take a ++ x :: l.drop a) := by
  refine ⟨l.take a, l.drop a, (List.take_append_drop a l).symm, rfl, hB, fun A0 z hz => ?_⟩
  have hlen : (l.take a).length = A0.length + 1 := by rw [hz]; simp
  rw [List.length_take, Nat.min_eq_left ha] at hlen
  have hlt : A0.length < l.length := by omega
  have := hA A0.length hlen hlt
  have e : l[A0.length] = z := by
    have h1 : (l.take a)[A0.length]'(by rw [List.length_take]; omega) = l[A0.length] := List.getElem_take
    rw [← h1]
    simp only [hz]
    simp
  rw [e] at this
  exact this

theorem nel_append (A : List (List Int)) (t : List Int) (B1 : List (List Int)) (l : List Int) :
    A ++ (if t = [] then B1 ++ nel l else t :: (B1 ++ nel l)) = (A ++ (if t = [] then B1 else t :: B1)) ++ nel l := by
  split <;> simp

/-- One more behind the last list: it goes in behind all that are not greater. -/
theorem mg_ins {key : Int → Int} : ∀ (w : List Int) (A : List (List Int)) (l : List Int) (y : Int) (w' : List Int), Mg key (A ++ nel l) w → Asc key w → Asc key (l ++ [y]) → Ins key y w w' → Mg key (A ++ nel (l ++ [y])) w'
  | [], A, l, y, w', hm, _, _, hi => by
    have hm : A ++ nel l = [] := hm
    obtain ⟨rfl, hl⟩ := List.append_eq_nil_iff.1 hm
    have hl : l = [] := by
      unfold nel at hl
      split at hl
      · assumption
      · cases hl
    subst hl
    obtain ⟨A, B, h1, rfl, _, _⟩ := hi
    obtain ⟨rfl, rfl⟩ := List.append_eq_nil_iff.1 h1.symm
    refine ⟨[], [], [], by simp [nel], by simp, by simp, ?_⟩
    show Mg key _ []
    simp [Mg]
  | x :: r, A, l, y, w', hm, hw, hl, hi => by
    obtain ⟨A', t, B', hAB, hA, hB, hr⟩ := hm
    have hmin : ∀ p, p ∈ A ++ nel l → key x ≤ key (hd p) := by
      intro p hp
      rw [hAB] at hp
      rcases List.mem_append.1 hp with hp | hp
      · exact Int.le_of_lt (hA p hp)
      · rcases List.mem_cons.1 hp with rfl | hp
        · exact Int.le_refl _
        · exact hB p hp
    have hyl : ∀ z, z ∈ l → key z ≤ key y := by
      unfold Asc at hl
      rw [List.pairwise_append] at hl
      exact fun z hz => hl.2.2 z hz y (by simp)
    obtain ⟨A0, B0, hx, rfl, hgt, hle⟩ := hi
    cases A0 with
    | nil =>
      have hx : x :: r = B0 := hx
      subst hx
      have hyx : key y < key x := hgt x (by simp)
      have hle : l = [] := by
        cases l with
        | nil => rfl
        | cons z l' =>
          exfalso
          have h1 := hmin (z :: l') (List.mem_append.2 (.inr (by simp [nel])))
          have h2 := hyl z (by simp)
          have h1 : key x ≤ key z := h1
          omega
      subst hle
      refine ⟨A, [], [], by simp [nel], fun p hp => ?_, by simp, ?_⟩
      · have := hmin p (List.mem_append.2 (.inl hp))
        omega
      · simp only [if_true, List.append_nil]
        simp only [nel, if_true, List.append_nil] at hAB
        exact ⟨A', t, B', hAB, hA, hB, hr⟩
    | cons x' A1 =>
      injection hx with hx1 hx2
      subst hx1
      have hxy : key x ≤ key y := by
        rcases List.eq_nil_or_concat A1 with rfl | ⟨A2, z, rfl⟩
        · exact hle [] x (by simp)
        · have h1 := hle (x :: A2) z (by simp)
          unfold Asc at hw
          rw [List.pairwise_cons] at hw
          have h2 := hw.1 z (by rw [hx2]; simp)
          omega
      have hi' : Ins key y r (A1 ++ y :: B0) := ⟨A1, B0, hx2, rfl, hgt, fun A2 a e => hle (x :: A2) a (by rw [e]; rfl)⟩
      have hw' : Asc key r := by unfold Asc at hw ⊢; exact (List.pairwise_cons.1 hw).2
      have hne : nel (l ++ [y]) = [l ++ [y]] := by simp [nel]
      have hnew : key x ≤ key (hd (l ++ [y])) := by
        cases l with
        | nil => exact hxy
        | cons z l' =>
          have := hmin (z :: l') (List.mem_append.2 (.inr (by simp [nel])))
          exact this
      show Mg key _ (x :: (A1 ++ y :: B0))
      rcases List.append_eq_append_iff.1 hAB with ⟨C, h1, h2⟩ | ⟨C, h1, h2⟩
      · -- A' = A ++ C, nel l = C ++ (x :: t) :: B'
        have hlne : nel l = [l] ∧ l ≠ [] := by
          unfold nel at h2 ⊢
          split at h2
          · have := congrArg List.length h2; simp at this
          · rename_i h; exact ⟨by simp [h], h⟩
        rw [hlne.1] at h2
        have hC : C = [] := by
          cases C with
          | nil => rfl
          | cons c C =>
            have := congrArg List.length h2
            simp at this
        subst hC
        injection h2 with h3 h4
        subst h3
        rw [List.append_nil] at h1
        subst h1
        rw [← h4] at hr hB
        refine ⟨A', t ++ [y], [], by rw [hne]; rfl, hA, by simp, ?_⟩
        rw [if_neg (by simp)]
        have := mg_ins r A' t y _ (by unfold nel; exact hr) hw' (by unfold Asc at hl ⊢; exact (List.pairwise_cons.1 hl).2) hi'
        simpa [nel] using this
      · -- A = A' ++ C, (x :: t) :: B' = C ++ nel l
        cases C with
        | nil =>
          have h2 : (x :: t) :: B' = nel l := h2
          have hlne : nel l = [l] := by
            unfold nel at h2 ⊢
            split at h2
            · cases h2
            · rename_i h; simp [h]
          rw [hlne] at h2
          injection h2 with h3 h4
          subst h3
          subst h4
          rw [List.append_nil] at h1
          subst h1
          refine ⟨A, t ++ [y], [], by rw [hne]; rfl, hA, by simp, ?_⟩
          rw [if_neg (by simp)]
          have := mg_ins r A t y _ (by unfold nel; exact hr) hw' (by unfold Asc at hl ⊢; exact (List.pairwise_cons.1 hl).2) hi'
          simpa [nel] using this
        | cons c C =>
          injection h2 with h3 h4
          subst h3
          subst h4
          subst h1
          refine ⟨A', t, C ++ [l ++ [y]], by rw [hne]; simp, hA, fun p hp => ?_, ?_⟩
          · rcases List.mem_append.1 hp with hp | hp
            · exact hB p (List.mem_append.2 (.inl hp))
            · rw [List.mem_singleton.1 hp]; exact hnew
          · have hr : Mg key (A' ++ if t = [] then C ++ nel l else t :: (C ++ nel l)) r := hr
            rw [nel_append A'] at hr
            have := mg_ins r _ l y _ hr hw' hl hi'
            rw [hne] at this
            have e : A' ++ (if t = [] then C ++ [l ++ [y]] else t :: (C ++ [l ++ [y]])) = (A' ++ (if t = [] then C else t :: C)) ++ [l ++ [y]] := by split <;> simp
            rw [e]
            exact this

/-! ### What SeqMerge builds, in memory -/
theorem grown_set (w : World) (g j : Nat) (u : Value) : w.grownBy (w.setCell ⟨g, j, none⟩ u) (some g) :=
  ⟨rfl, rfl, rfl, by simp [World.setCell], fun k _ hk => Below.heap_setCell _ _ _ k (fun e => hk (by rw [e]))⟩

/-- The lists so far (in the row v6), and all of them in one (v7). -/
structure Mst (D : Nat) (W w : World) (v6 v7 : Value) (L : List (Value × List Int)) (ws : List Int) : Prop where
  below : Below D W w
  sz : D ≤ w.heap.size
  r6 : w.ownsRow D 22 1 v6 L.length (L.map Prod.fst)
  r7 : Row w D v7 ws
  ls : ∀ p, p ∈ L → Row w D p.1 p.2
  n67 : ∀ q, v6.ownBlock = some q → v7.ownBlock ≠ some q
  n6 : ∀ p, p ∈ L → ∀ q, p.1.ownBlock = some q → v6.ownBlock ≠ some q ∧ v7.ownBlock ≠ some q
/-- The list that is being built. -/
structure Lst (D : Nat) (w : World) (v6 v7 v9 : Value) (L : List (Value × List Int)) (l : List Int) : Prop where
  r9 : Row w D v9 l
  n9 : ∀ q, v9.ownBlock = some q → v6.ownBlock ≠ some q ∧ v7.ownBlock ≠ some q ∧ ∀ p, p ∈ L → p.1.ownBlock ≠ some q

theorem rowf {w w' : World} {D e size n : Nat} {v : Value} {xs : List Value} {o : Option Nat} (h : w.ownsRow D e size v n xs) (hg : w.grownBy w' o) (hne : ∀ q, v.ownBlock = some q → o ≠ some q) : w'.ownsRow D e size v n xs := by
  refine h.kept hg ?_
  cases hv : v.ownBlock with
  | none => exact .inl rfl
  | some q => exact .inr (fun e => hne q hv e.symm)

/-- Something else of one's own turned. -/
theorem Mst.far {D : Nat} {W w w' : World} {v6 v7 : Value} {L : List (Value × List Int)} {ws : List Int} {o : Option Nat} (h : Mst D W w v6 v7 L ws) (hg : w.grownBy w' o)
    (ho : ∀ q, o = some q → D ≤ q ∧ v6.ownBlock ≠ some q ∧ v7.ownBlock ≠ some q ∧ ∀ p, p ∈ L → p.1.ownBlock ≠ some q) : Mst D W w' v6 v7 L ws :=
  ⟨h.below.grown hg h.sz (fun q hq => (ho q hq).1), Nat.le_trans h.sz hg.size, rowf h.r6 hg (fun q hq e => (ho q e).2.1 hq), rowf h.r7 hg (fun q hq e => (ho q e).2.2.1 hq),
    fun p hp => rowf (h.ls p hp) hg (fun q hq e => (ho q e).2.2.2 p hp hq), h.n67, h.n6⟩
theorem Mst.alloc {D : Nat} {W w : World} {v6 v7 : Value} {L : List (Value × List Int)} {ws : List Int} (h : Mst D W w v6 v7 L ws) (o : Obj) : Mst D W (w.alloc o) v6 v7 L ws :=
  h.far (World.grownBy_alloc w o none) (fun q hq => by cases hq)
theorem Mst.drew {D : Nat} {W w : World} {v6 v7 : Value} {L : List (Value × List Int)} {ws : List Int} (h : Mst D W w v6 v7 L ws) : Mst D W w.drew v6 v7 L ws :=
  ⟨h.below.drew, h.sz, h.r6.drew, h.r7.drew, fun p hp => (h.ls p hp).drew, h.n67, h.n6⟩
theorem Mst.drewN {D : Nat} {W w : World} {v6 v7 : Value} {L : List (Value × List Int)} {ws : List Int} (h : Mst D W w v6 v7 L ws) (q : Nat) : Mst D W (w.drewN q) v6 v7 L ws :=
  ⟨⟨h.below.os, h.below.tape, h.below.output, h.below.size, h.below.block⟩, h.sz, h.r6, h.r7, h.ls, h.n67, h.n6⟩
theorem Lst.drew {D : Nat} {w : World} {v6 v7 v9 : Value} {L : List (Value × List Int)} {l : List Int} (h : Lst D w v6 v7 v9 L l) : Lst D w.drew v6 v7 v9 L l := ⟨h.r9.drew, h.n9⟩
theorem Mst.new {D : Nat} {W w : World} {v6 v7 : Value} {L : List (Value × List Int)} {ws : List Int} (h : Mst D W w v6 v7 L ws) {q : Nat} (hq : w.heap.size ≤ q) :
    D ≤ q ∧ v6.ownBlock ≠ some q ∧ v7.ownBlock ≠ some q ∧ ∀ p, p ∈ L → p.1.ownBlock ≠ some q :=
  ⟨Nat.le_trans h.sz hq, fun e => by have := (h.r6.lt q e).2; omega, fun e => by have := (h.r7.lt q e).2; omega, fun p hp e => by have := ((h.ls p hp).lt q e).2; omega⟩
theorem Lst.at {D : Nat} {W w : World} {v6 v7 v9 : Value} {L : List (Value × List Int)} {ws l : List Int} (_ : Mst D W w v6 v7 L ws) (hl : Lst D w v6 v7 v9 L l) {q : Nat} (hq : v9.ownBlock = some q) :
    D ≤ q ∧ v6.ownBlock ≠ some q ∧ v7.ownBlock ≠ some q ∧ ∀ p, p ∈ L → p.1.ownBlock ≠ some q := ⟨(hl.r9.lt q hq).1, hl.n9 q hq⟩
theorem lst_nil {D : Nat} {w : World} {v6 v7 : Value} {L : List (Value × List Int)} : Lst D w v6 v7 (.slice none 0 0) L [] := ⟨row_none _ _, fun q hq => by simp [Value.ownBlock] at hq⟩

/-- One more number behind the list that is being built. -/
theorem app9 {D : Nat} {W w w' : World} {v6 v7 v9 v' : Value} {L : List (Value × List Int)} {ws l l' : List Int} {o : Obj} (h : Mst D W w v6 v7 L ws) (hl : Lst D w v6 v7 v9 L l) (hr : Row w' D v' l')
    (hg : (w.alloc o).grownBy w' v9.ownBlock) (hat : v'.ownBlock = v9.ownBlock ∨ v'.ownBlock = some (w.alloc o).heap.size) : Mst D W w' v6 v7 L ws ∧ Lst D w' v6 v7 v' L l' := by
  refine ⟨(h.alloc o).far hg (fun q hq => hl.at h hq), hr, fun q hq => ?_⟩
  rcases hat with e | e
  · exact hl.n9 q (e ▸ hq)
  · rw [e] at hq
    injection hq with hq
    rw [World.size_alloc] at hq
    exact (h.new (q := q) (by omega)).2
theorem set9 {D : Nat} {W w : World} {v6 v7 : Value} {g n c : Nat} {L : List (Value × List Int)} {ws l l' : List Int} (h : Mst D W w v6 v7 L ws) (hl : Lst D w v6 v7 (.slice (some ⟨g, 0, none⟩) n c) L l) (j : Nat) (x : Int) (hn : l.length = n)
    (hl' : l.set j x = l') : Mst D W (w.setCell ⟨g, j, none⟩ (Value.int .i64 (x))) v6 v7 L ws ∧ Lst D (w.setCell ⟨g, j, none⟩ (Value.int .i64 (x))) v6 v7 (.slice (some ⟨g, 0, none⟩) n c) L l' := by
  subst hl'; subst hn
  refine ⟨h.far (grown_set w g j _) (fun q hq => hl.at h hq), ?_, hl.n9⟩
  have := (hl.r9.stored j (Value.int .i64 (x))).1
  unfold Row
  rw [List.length_set, List.map_set]
  exact this
/-- The list joins the others. -/
theorem app6 {D : Nat} {W w w' : World} {v6 v7 v9 v' : Value} {L : List (Value × List Int)} {ws l : List Int} {o : Obj} (h : Mst D W w v6 v7 L ws) (hl : Lst D w v6 v7 v9 L l) (hr : w'.ownsRow D 22 1 v' (L.length + 1) (L.map Prod.fst ++ [v9]))
    (hg : (w.alloc o).grownBy w' v6.ownBlock) (hat : v'.ownBlock = v6.ownBlock ∨ v'.ownBlock = some (w.alloc o).heap.size) : Mst D W w' v' v7 (L ++ [(v9, l)]) ws := by
  have ha := h.alloc o
  have h6 : ∀ q, v6.ownBlock = some q → (w.alloc o).heap[q]? = (w.alloc o).heap[q]? ∧ D ≤ q ∧ v7.ownBlock ≠ some q ∧ (∀ p, p ∈ L → p.1.ownBlock ≠ some q) ∧ v9.ownBlock ≠ some q := fun q hq =>
    ⟨rfl, (h.r6.lt q hq).1, h.n67 q hq, fun p hp e => (h.n6 p hp q e).1 hq, fun e => (hl.n9 q e).1 hq⟩
  have hne : ∀ q, v'.ownBlock = some q → v7.ownBlock ≠ some q ∧ (∀ p, p ∈ L → p.1.ownBlock ≠ some q) ∧ v9.ownBlock ≠ some q := fun q hq => by
    rcases hat with e | e
    · exact (h6 q (e ▸ hq)).2.2
    · rw [e] at hq
      injection hq with hq
      rw [World.size_alloc] at hq
      have := h.new (q := q) (by omega)
      exact ⟨this.2.2.1, this.2.2.2, fun e => by have := (hl.r9.lt q e).2; omega⟩
  refine ⟨ha.below.grown hg ha.sz (fun q hq => (h6 q hq).2.1), Nat.le_trans ha.sz hg.size, by simpa using hr, rowf ha.r7 hg (fun q hq e => (h6 q e).2.2.1 hq), fun p hp => ?_, fun q hq => (hne q hq).1, fun p hp q hq => ?_⟩
  · rcases List.mem_append.1 hp with hp | hp
    · exact rowf (ha.ls p hp) hg (fun q hq e => (h6 q e).2.2.2.1 p hp hq)
    · rw [List.mem_singleton.1 hp]
      exact rowf (hl.r9.alloc o) hg (fun q hq e => (h6 q e).2.2.2.2 hq)
  · rcases List.mem_append.1 hp with hp | hp
    · exact ⟨fun e => (hne q e).2.1 p hp hq, (h.n6 p hp q hq).2⟩
    · rw [List.mem_singleton.1 hp] at hq
      exact ⟨fun e => (hne q e).2.2 hq, (hl.n9 q hq).2.1⟩
/-- One more number in the one row of all. -/
theorem app7 {D : Nat} {W w w' : World} {v6 v7 v' : Value} {L : List (Value × List Int)} {ws ws' : List Int} {o : Obj} (h : Mst D W w v6 v7 L ws) (hr : Row w' D v' ws')
    (hg : (w.alloc o).grownBy w' v7.ownBlock) (hat : v'.ownBlock = v7.ownBlock ∨ v'.ownBlock = some (w.alloc o).heap.size) : Mst D W w' v6 v' L ws' := by
  have ha := h.alloc o
  have hne : ∀ q, v'.ownBlock = some q → v6.ownBlock ≠ some q ∧ (∀ p, p ∈ L → p.1.ownBlock ≠ some q) := fun q hq => by
    rcases hat with e | e
    · exact ⟨fun e' => h.n67 q e' (e ▸ hq), fun p hp e' => (h.n6 p hp q e').2 (e ▸ hq)⟩
    · rw [e] at hq
      injection hq with hq
      rw [World.size_alloc] at hq
      have := h.new (q := q) (by omega)
      exact ⟨this.2.1, this.2.2.2⟩
  exact ⟨ha.below.grown hg ha.sz (fun q hq => (h.r7.lt q hq).1), Nat.le_trans ha.sz hg.size, rowf ha.r6 hg (fun q hq e => h.n67 q hq e), hr,
    fun p hp => rowf (ha.ls p hp) hg (fun q hq e => (h.n6 p hp q hq).2 e), fun q hq e => (hne q e).1 hq, fun p hp q hq => ⟨(h.n6 p hp q hq).1, fun e => (hne q e).2 p hp hq⟩⟩
theorem set7 {D : Nat} {W w : World} {v6 : Value} {g n c : Nat} {L : List (Value × List Int)} {ws ws' : List Int} (h : Mst D W w v6 (.slice (some ⟨g, 0, none⟩) n c) L ws) (j : Nat) (x : Int) (hn : ws.length = n) (hl' : ws.set j x = ws') :
    Mst D W (w.setCell ⟨g, j, none⟩ (Value.int .i64 (x))) v6 (.slice (some ⟨g, 0, none⟩) n c) L ws' := by
  subst hl'; subst hn
  have hg := grown_set w g j (Value.int .i64 (x))
  have h7 : (Value.slice (some ⟨g, 0, none⟩) ws.length c).ownBlock = some g := rfl
  refine ⟨h.below.grown hg h.sz (fun q hq => (h.r7.lt q (h7.trans hq)).1), Nat.le_trans h.sz hg.size, rowf h.r6 hg (fun q hq e => h.n67 q hq (h7.trans e)), ?_,
    fun p hp => rowf (h.ls p hp) hg (fun q hq e => (h.n6 p hp q hq).2 (h7.trans e)), h.n67, h.n6⟩
  have := (h.r7.stored j (Value.int .i64 (x))).1
  unfold Row
  rw [List.length_set, List.map_set]
  exact this

/-! ### One step of an insertion -/
theorem ins_set {l : List Int} {a : Nat} (y : Int) (ha : a < l.length) : (l.take (a + 1) ++ y :: l.drop (a + 1)).set (a + 1) l[a] = l.take a ++ l[a] :: l.drop a := by
  have e1 : (l.take (a + 1)).length = a + 1 := by rw [List.length_take]; omega
  rw [List.set_append_right _ _ (by omega), e1, Nat.sub_self, List.set_cons_zero, List.take_succ_eq_append_getElem ha, List.append_assoc, List.singleton_append, ← List.drop_eq_getElem_cons ha]
theorem ins_end {l : List Int} {a : Nat} (y x : Int) (ha : a ≤ l.length) : (l.take a ++ y :: l.drop a).set a x = l.take a ++ x :: l.drop a := by
  have e1 : (l.take a).length = a := by rw [List.length_take]; omega
  rw [List.set_append_right _ _ (by omega), e1, Nat.sub_self, List.set_cons_zero]
theorem ins_len {l : List Int} {a : Nat} (y : Int) (ha : a ≤ l.length) : (l.take a ++ y :: l.drop a).length = l.length + 1 := by
  rw [List.length_append, List.length_cons, List.length_take, List.length_drop]; omega
theorem ins_get {l : List Int} {a : Nat} (y : Int) (ha : a < l.length) : (l.take (a + 1) ++ y :: l.drop (a + 1))[a]? = some l[a] := by
  rw [List.getElem?_append_left (by rw [List.length_take]; omega), List.getElem?_take_of_lt (by omega)]
  simp [ha]
/-- A row's cells. -/
theorem row_cell {w : World} {D g n c : Nat} {xs : List Int} (h : Row w D (.slice (some ⟨g, 0, none⟩) n c) xs) (hn : xs.length = n) {j : Nat} {x : Int} (hx : xs[j]? = some x) : w.cell? ⟨g, j, none⟩ = some (Value.int .i64 (x)) := by
  subst hn
  have hj : j < xs.length := (List.getElem?_eq_some_iff.1 hx).1
  have := World.ownsRow.cellAt h j (by omega)
  rw [this, List.getElem?_map, hx]; rfl
theorem row_frozen {w : World} {D g n c : Nat} {xs : List Int} (h : Row w D (.slice (some ⟨g, 0, none⟩) n c) xs) (hn : xs.length = n) (j : Nat) : w.frozen? ⟨g, j, none⟩ = false := by
  subst hn
  exact World.ownsRow.frozenAt h j
theorem row_form {w : World} {D : Nat} {v : Value} {xs : List Int} (h : Row w D v xs) (hn : 0 < xs.length) : ∃ g c, v = .slice (some ⟨g, 0, none⟩) xs.length c ∧ xs.length ≤ c := by
  rcases h.2 with ⟨_, h⟩ | ⟨g, cap, cur, rfl, _, _, hnc, _⟩
  · simp at h; subst h; simp at hn
  · exact ⟨g, cap, rfl, hnc⟩
theorem row_form' {w : World} {D n : Nat} {v : Value} {xs : List Int} (h : Row w D v xs) (hn : xs.length = n + 1) : ∃ g c, v = .slice (some ⟨g, 0, none⟩) (n + 1) c ∧ n + 1 ≤ c := by
  rw [← hn]
  exact row_form h (by omega)
theorem row_len' {w : World} {D n : Nat} {v : Value} {xs : List Int} (h : Row w D v xs) (hn : xs.length = n) : ∃ p c, v = .slice p n c := by
  rw [← hn]
  exact row_len h
theorem row_ptr {w : World} {D n c : Nat} {p : Option Addr} {xs : List Int} (h : Row w D (.slice p n c) xs) (hn : xs.length = n) (h0 : 0 < n) : ∃ g, p = some ⟨g, 0, none⟩ := by
  obtain ⟨g, c', e, _⟩ := row_form h (by omega)
  injection e with e _ _
  exact ⟨g, e⟩
theorem asc_take {key : Int → Int} {l : List Int} (h : Asc key l) (i : Nat) : Asc key (l.take i) := List.Pairwise.sublist (List.take_sublist _ _) h
theorem nel_filter (L : List (Value × List Int)) (v : Value) (l : List Int) : ((L ++ [(v, l)]).map Prod.snd).filter (fun l => !l.isEmpty) = (L.map Prod.snd).filter (fun l => !l.isEmpty) ++ nel l := by
  rw [List.map_append, List.filter_append]
  congr 1
  cases l with
  | nil => rfl
  | cons x l => rfl
/-- One list behind the others. -/
theorem wpList_append_list {ops : Array Oper} {rest : List Oper} {o : Oper} {a : Act} {Q : Exit → Act → World → Prop} {W : World} (hgd : o.guard = none) (s x : Operand)
    (ho : o.op = .call { callee := .builtin .append, args := #[s, x], argTypes := #[40, 40] }) (base : Nat) (v : Value) (n : Nat) (vs : List Value) (u : Value) (hs : a.eval s = v) (hx : a.eval x = .slice (some ⟨W.heap.size, 0, none⟩) 1 1)
    (hr : (W.alloc (.cells #[u] 22)).ownsRow base 22 1 v n vs) (h1 : u.oneCell' = true) (hn : n ≤ 1000000) (hb : base ≤ W.heap.size)
    (h : ∀ v' w', w'.ownsRow base 22 1 v' (n + 1) (vs ++ [u]) → (W.alloc (.cells #[u] 22)).grownBy w' v.ownBlock → (v'.ownBlock = v.ownBlock ∨ v'.ownBlock = some (W.alloc (.cells #[u] 22)).heap.size) → wpList Try.prog ops Q rest (a.put o.dst v') w') :
    wpList Try.prog ops Q (o :: rest) a (W.alloc (.cells #[u] 22)) := by
  obtain ⟨i0, hi0, hz0, hz1, hz2⟩ := info_parts info22
  have hv := vals_new W [u] 22 1
  refine wpList_append_own_at (W.alloc (.cells #[u] 22)) hgd s x 40 ho base 22 i0 (.slice none 0 0) 1 24 Try.underlying40 hi0 hz0 hz1 hz2 rfl (by decide) v n vs hs hr ⟨W.heap.size, 0, none⟩ 1 1 [u] hx rfl ?_ (fun y hy => by rw [List.mem_singleton.1 hy]; exact h1) (by unfold maxLen; omega) (by omega) (by rw [World.size_alloc]; omega) ?_
  · intro j y hj
    rcases j with _ | j
    · simp at hj
      subst hj
      rcases hv with ⟨h, _⟩ | ⟨b, off, cap, h, _, h3⟩
      · cases h
      · injection h with h1 _ _
        injection h1 with h1
        injection h1 with h1 h2 _
        subst h1; subst h2
        exact h3 0 (by simp)
    · simp at hj
  · exact fun v' w' a1 a2 _ a4 => h v' w' a1 a2 a4
end Go.Proofs.Ytjlnfeableleeaa
