/- A Schema beside a row of tables. -/
import Derived.Test.YtbhcmmkobadmnaaRC
namespace Go.Proofs.Ytbhcmmkobadmnaa
open Go Go.RowKit Go.Proofs

theorem Kp.chg {w w' : World} {S : Nat} {ts : List T} (hs : Sch w S ts) (hc : Chg (fun b => b = S) w w') : Kp w w' := by
  obtain ⟨_, xs, rest, h59, _⟩ := hs
  intro q cur e m hq h1 h2
  exact (hc.block q (lt_of_heap hq) (fun eq => by
    have eq : q = S := eq
    rw [eq, h59] at hq
    cases hq
    exact h1 rfl)).trans hq
theorem Kp.grown {w w' : World} {base n : Nat} {v : Value} {xs : List Value} (hr : HRow w base 34 4 v n xs) (hg : w.grownBy w' v.ownBlock) : Kp w w' := by
  intro q cur e m hq h1 h2
  refine (hg.block q (lt_of_heap hq) (fun eq => ?_)).trans hq
  obtain ⟨_, c, hb⟩ := hr.block q eq.symm
  rw [hb] at hq
  cases hq
  exact h2 rfl
structure LSt (S : Nat) (W : World) (ts us : List T) (v : Value) (xs : List Value) (w : World) : Prop where
  st : St S W ts w
  row : HRow w W.heap.size 34 4 v us.length xs
  tabs : TabsC w xs us
section
variable {S : Nat} {W w w' : World} {ts us ts' : List T} {v : Value} {xs : List Value}
theorem LSt.on (h : LSt S W ts us v xs w) (hb : Below w.heap.size w w') : LSt S W ts us v xs w' := ⟨h.st.on hb, h.row.later hb, h.tabs.kp (.below hb)⟩
theorem LSt.add (h : LSt S W ts us v xs w) (hs : Sch w' S ts') (hc : Chg (fun b => b = S) w w') : LSt S W ts' us v xs w' := by
  refine ⟨h.st.add hs hc, h.row.of (fun k hk => hc.block k (h.row.lt k hk).2 (fun eq => ?_)), h.tabs.kp (Kp.chg h.st.sch hc)⟩
  have eq : k = S := eq
  obtain ⟨_, ys, rest, h59, _⟩ := h.st.sch
  obtain ⟨_, c, hb⟩ := h.row.block k hk
  rw [eq, h59] at hb
  cases hb
theorem LSt.rd (h : LSt S W ts us v xs w) : RdTs w v us := by
  have hx := h.tabs.1
  rcases h.row.2 with ⟨h1, h2⟩ | ⟨g, cap, cur, h1, h2, h3, h4, h5, h6, h7⟩
  · have : us = [] := List.eq_nil_of_length_eq_zero h2
    subst this
    rw [h1]; exact RdTs.nil w
  · refine ⟨some ⟨g, 0, none⟩, cap, xs, h1, h4, h5, fun _ => ⟨g, 0, rfl, lt_of_heap h3, fun j u hj => ?_⟩, h.tabs⟩
    rw [Nat.zero_add, nd_cell h3]
    rw [← h7, List.getElem?_take] at hj
    split at hj
    · rw [← Array.getElem?_toList]; exact hj
    · cases hj
theorem LSt.start (h : St S W ts w) : LSt S W ts [] (.slice none 0 0) [] w := ⟨h, HRow.nil, TabsC.nil w⟩
/-- One table more in the row. -/
theorem LSt.snoc (h : LSt S W ts us v xs w) {t : T} {cv dv v' : Value} (ht : RdT w cv dv t) (hr : HRow w' W.heap.size 34 4 v' (us.length + 1) (xs ++ [.string t.nm, cv, .string t.key, dv])) (hg : w.grownBy w' v.ownBlock) : LSt S W ts (us ++ [t]) v' (xs ++ [.string t.nm, cv, .string t.key, dv]) w' := by
  have hk := Kp.grown h.row hg
  have hbel : Below W.heap.size w w' := below_row h.row hg (Nat.le_refl _) h.st.below.size
  refine ⟨⟨?_, h.st.below.trans hbel, h.st.le⟩, by rw [List.length_append]; exact hr, (h.tabs.kp hk).snoc (ht.kp hk)⟩
  obtain ⟨h0, ys, rest, h59, h2, h3⟩ := h.st.sch
  refine ⟨h0, ys, rest, (hg.block S (lt_of_heap h59) (fun eq => ?_)).trans h59, h2, h3.kp hk⟩
  obtain ⟨_, c, hb⟩ := h.row.block S eq.symm
  rw [h59] at hb
  cases hb
/-- append of one table to the row. -/
theorem LSt.app (h : LSt S W ts us v xs w) {t : T} {p1 p2 : Option Addr} {n1 c1 n2 c2 ty : Nat} {nm key : ByteArray} (hn : t.nm = nm) (hk : t.key = key) (ht : RdT w (.slice p1 n1 c1) (.slice p2 n2 c2) t) (hl : us.length ≤ 1000) (hty : Try.prog.underlying ty = some (.slice 34)) :
    ∃ g cap w', (Builtin.append_ #[ty, ty] ty #[v, .slice (some ⟨w.heap.size, 0, none⟩) 1 1]).run Try.prog (w.alloc (boxT nm (.slice p1 n1 c1) key (.slice p2 n2 c2))) = .ok (.slice (some ⟨g, 0, none⟩) (us.length + 1) cap) w' ∧
      LSt S W ts (us ++ [t]) (.slice (some ⟨g, 0, none⟩) (us.length + 1) cap) (xs ++ [.string nm, .slice p1 n1 c1, .string key, .slice p2 n2 c2]) w' := by
  subst hn hk
  obtain ⟨g, cap, w', h1, h2, h3, h4⟩ := app_one (ty := ty) hty info34 (by kernel_rfl) (by decide) (by decide) w W.heap.size h.row (by omega) h.st.below.size #[.string t.nm, .slice p1 n1 c1, .string t.key, .slice p2 n2 c2] rfl (by
    intro u hu
    simp only [List.mem_cons, List.not_mem_nil, or_false] at hu
    rcases hu with rfl | rfl | rfl | rfl <;> rfl)
  exact ⟨g, cap, w', h1, h.snoc ht h2 h3⟩
end

/-! ### SchemaLimits: its tables -/
def nmL (i : Nat) : ByteArray := ⟨#[UInt8.ofNat (97 + i)]⟩
def tL (i : Nat) : T := ⟨nmL i, [⟨bX, 1, false, e0⟩], e0, []⟩
def tabs (k : Nat) : List T := (List.range (min k 8)).map tL
theorem tabs_len (k : Nat) : (tabs k).length = min k 8 := by simp [tabs]
theorem may_L : ∀ i, i < 11 → mayP (tabs i) (tL i) = if i < 8 then 0 else 5 := by decide +kernel
theorem form_L (i : Nat) : formT (tL i) = tL i := rfl
theorem tabs_lt (i : Nat) (h : i < 8) : tabs (i + 1) = tabs i ++ [tL i] := by
  unfold tabs
  rw [Nat.min_eq_left (by omega), Nat.min_eq_left (by omega), List.range_succ, List.map_append]; rfl
theorem tabs_ge (i : Nat) (h : ¬ i < 8) : tabs (i + 1) = tabs i := by
  unfold tabs
  rw [Nat.min_eq_right (by omega), Nat.min_eq_right (by omega)]
theorem add_L (i : Nat) (hi : i < 11) : addT (tabs i) (tL i) = tabs (i + 1) := by
  unfold addT
  rw [may_L i hi]
  by_cases h : i < 8
  · rw [if_pos h, if_pos rfl, form_L, tabs_lt i h]
  · rw [if_neg h, if_neg (by decide), tabs_ge i h]
theorem inv_L : ∀ k, k ≤ 11 → Inv (tabs k)
  | 0, _ => nil_inv
  | k + 1, h => by rw [← add_L k (by omega)]; exact (inv_L k (by omega)).add _
theorem sm_L (i : Nat) : Sm (tL i) := small_of (t := tL i) (show (1 : Nat) ≤ 20 by decide) (show ([⟨bX, 1, false, e0⟩] : List C).all (fun c => decide (c.nm.size ≤ 20)) = true by decide)
abbrev bLast : ByteArray := ⟨#[108, 97, 115, 116]⟩
def nmC (i : Nat) : ByteArray := ⟨#[99, UInt8.ofNat (48 + i)]⟩
def cL (i : Nat) : C := ⟨nmC i, 2, false, e0⟩
def dL : D := ⟨[⟨#[99, 48]⟩], ⟨#[99, 49]⟩⟩
def tE (c d : Nat) : T := ⟨bLast, (List.range c).map cL, e0, (List.range d).map (fun _ => dL)⟩
theorem may_E : ∀ a, a < 11 → ∀ c, c < 9 → ∀ d, d < 6 → decide (mayP (tabs a) (tE c d) = 0) = (decide (a < 8) && (decide (1 ≤ c) && (decide (c ≤ 6) && (decide (d ≤ 3) && (decide (d = 0) || decide (2 ≤ c)))))) := by decide +kernel
theorem u8_of : ∀ i, i < 11 → ((UInt8.ofNat (97 + i)).toNat : Int) = 97 + (i : Int) ∧ ((UInt8.ofNat (48 + i)).toNat : Int) = 48 + (i : Int) := by decide +kernel
theorem sm_E (c d : Nat) : Sm (tE c d) := by
  refine ⟨show (4 : Nat) ≤ maxLen by decide, fun x hx => ?_⟩
  obtain ⟨i, _, rfl⟩ := List.mem_map.1 hx
  exact show (2 : Nat) ≤ maxLen by decide
end Go.Proofs.Ytbhcmmkobadmnaa
