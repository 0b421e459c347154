/- Who has a key, of any DB; what stands at a way's end. What stands at a way's end: what the last region keeps. -/
import Derived.Test.YtjepplacnaoomaaGreatZn47
import Derived.Test.YtjepplacnaoomaaGreatZn13
namespace Go.Proofs.YtjepplacnaoomaaGreat
open Go Go.RowKit Go.Proofs Co Co.S
/-- The names are short. -/
def Short (ts : List T) : Prop := ∀ t ∈ ts, t.nm.size ≤ maxLen
abbrev rowsOf (st : List DT) : List (List R1) := st.map (·.2.2)

section
variable {W : World} {d : Nat} {ts : List T} {st : List DT} {O : Nat → Nat}
theorem byKeyP_neg {As : List (List R1)} {x : ByteArray} {v : T3} (h : ixT ts x < 0) : byKeyP ts As x v = none := by
  unfold byKeyP
  split
  · rw [if_pos h]
  · rfl
theorem byKeyP_at {As : List (List R1)} {x : ByteArray} {v : T3} {j : Nat} (hj : j < ts.length) (hj' : j < As.length) (h : ixT ts x = (j : Int)) : byKeyP ts As x v = if ts[j].key = e0 then none else if v.1 = 0 then none else byRow As[j] (ixC ts[j].cols ts[j].key).toNat v := by
  unfold byKeyP
  rw [h]
  simp only [Int.toNat_natCast, List.getElem?_eq_getElem hj, List.getElem?_eq_getElem hj']
  rw [if_neg (by omega)]
theorem Dd.sp (h : Dd W d ts st O) : ∃ mv, SchP mv W (Value.pointer (some ⟨d, 0, none⟩)) ts := by
  obtain ⟨mv, f, n0, q1, _⟩ := h.own
  exact ⟨mv, q1.p⟩
theorem nm_of_find {x : ByteArray} {t : T} (h : findT ts x = some t) : t.nm = x := by
  have := List.find?_some (l := ts) (p := isT x) h
  exact bytes_ext (by simpa [isT, eqS] using this)
theorem dbykey_any (h : Dd W d ts st O) (hi : InvQ ts) (hfew : AllFew ts) (hsz : Short ts) (x : ByteArray) (u : T3) :
    Calls Tryz.prog 18 #[(Value.pointer (some ⟨d, 0, none⟩)), .string x, (Value.agg #[Value.int .i64 (u.1), Value.int .i64 (u.2.1), Value.string (u.2.2)])] W fun e w' => e = .returned (.tuple #[.int .i64 ((byKeyP ts (rowsOf st) x u).getD 0), .bool (byKeyP ts (rowsOf st) x u).isSome]) ∧ Below W.heap.size W w' := by
  have hds : ∀ w, Below W.heap.size W w → Calls Tryz.prog 30 #[(Value.pointer (some ⟨d, 0, none⟩))] w fun e w' => e = .returned (Value.pointer (some ⟨d, 0, none⟩)) ∧ w' = w := fun w hw => dschema_any (h.later hw).dlt
  obtain ⟨mv, hsp⟩ := h.sp
  rcases ixT_cases ts x with ⟨h1, _, h3⟩ | ⟨j, hj, h1, _, h3⟩
  · rw [byKeyP_neg (by omega)]
    exact dbykey_no hds hsp hfew (.inl (by rw [h3]; rfl))
  · have hj' : j < st.length := by rw [h.len]; exact hj
    have hjr : j < (rowsOf st).length := by rw [List.length_map]; exact hj'
    rw [byKeyP_at hj hjr h1]
    by_cases hk : ts[j].key = e0
    · rw [if_pos hk]
      exact dbykey_no hds hsp hfew (.inl (by rw [h3]; exact hk))
    · rw [if_neg hk]
      by_cases hu : u.1 = 0
      · rw [if_pos hu]
        exact dbykey_no hds hsp hfew (.inr hu)
      · rw [if_neg hu]
        have hnm := nm_of_find h3
        have hg := hi.key _ (List.getElem_mem hj)
        have hc : hasC ts[j].cols ts[j].key = true := by
          unfold keyGood at hg
          rw [Bool.or_eq_true] at hg
          rcases hg with hg | hg
          · rw [eqS_iff] at hg; exact absurd hg hk
          · exact hg
        rcases ixC_casesQ ts[j].cols ts[j].key with ⟨_, h5, _⟩ | ⟨k, hk', h5, _⟩
        · rw [h5] at hc; cases hc
        · rw [h5]
          have := dbykey_scan h hfew hj hj' (hsz _ (List.getElem_mem hj)) (by rw [hnm]; exact h3) hk hk' h5 u hu
          rw [hnm] at this
          simpa only [Int.toNat_natCast, rowsOf, List.getElem_map] using this
/-- What a table's row has. -/
theorem tb_getc {tb next : Nat} {t : T} {A : List R1} {lab : Nat → Nat} (h : Tb W tb t next A lab) {id : Int} (hid : F64 id) {y : ByteArray} {k : Nat} (hk : k < t.cols.length) (hy : ixC t.cols y = (k : Int)) :
    Calls Tryz.prog 59 #[(Value.pointer (some ⟨tb, 0, none⟩)), .int .i64 id, .string y] W fun e w' => e = .returned (.tuple #[(Value.agg #[Value.int .i64 ((cellA A k id).1), Value.int .i64 ((cellA A k id).2.1), Value.string ((cellA A k id).2.2)]), .bool (hasId A id)]) ∧ Below W.heap.size W w' := by
  cases hh : hasId A id with
  | false =>
    rw [cellA_no hh]
    exact tb_get_no h hid (.inl (hasId_no.1 hh))
  | true =>
    obtain ⟨a, ha, rfl, hc⟩ := cellA_of hh
    rw [hc]
    have hl : k < a.2.length := by rw [h.len a ha]; exact hk
    have e : a.2[k]? = some (a.2.getD k z3) := by rw [List.getD_eq_getElem?_getD, List.getElem?_eq_getElem hl]; rfl
    exact tb_get_yes h ha hk hy e
/-- A table and what its row has, by the table's name. -/
theorem Dd.get (h : Dd W d ts st O) (hsz : Short ts) {x y : ByteArray} (hc : hasC (colsAt ts x) y = true) : ∃ tb, ∀ w, Below W.heap.size W w →
    (Calls Tryz.prog 56 #[(Value.pointer (some ⟨d, 0, none⟩)), .string x] w fun e w' => e = .returned (Value.pointer (some ⟨tb, 0, none⟩)) ∧ w' = w) ∧
    ∀ id, F64 id → Calls Tryz.prog 59 #[(Value.pointer (some ⟨tb, 0, none⟩)), .int .i64 id, .string y] w fun e w' => e = .returned (.tuple #[(Value.agg #[Value.int .i64 ((cellP ts (rowsOf st) x id y).1), Value.int .i64 ((cellP ts (rowsOf st) x id y).2.1), Value.string ((cellP ts (rowsOf st) x id y).2.2)]), .bool (hasId (rowsAt ts (rowsOf st) x) id)]) ∧ Below w.heap.size w w' := by
  obtain ⟨j, hj, hnm, hix, hf, hca, k, hk, hkx⟩ := hasC_at hc
  have hj' : j < st.length := by rw [h.len]; exact hj
  have hr : rowsAt ts (rowsOf st) x = st[j].2.2 := by
    unfold rowsAt
    rw [hix, Int.toNat_natCast, List.getElem?_map, List.getElem?_eq_getElem hj']; rfl
  refine ⟨st[j].1, fun w hw => ⟨?_, fun id hid => ?_⟩⟩
  · have := (h.later hw).rows hj (hsz _ (List.getElem_mem hj)) hj'
    rw [hnm] at this
    exact this
  · obtain ⟨lab, ht, _⟩ := (h.later hw).tab j hj hj'
    have := tb_getc ht hid hk hkx
    unfold cellP
    rw [hr, hca, hkx, Int.toNat_natCast]
    exact this
/-- The numbers of a table's rows. -/
theorem Dd.f64 (h : Dd W d ts st O) {x : ByteArray} {i : Int} (hm : hasId (rowsAt ts (rowsOf st) x) i = true) : F64 i := by
  obtain ⟨a, ha, rfl⟩ := hasId_mem.1 hm
  unfold rowsAt at ha
  rw [List.getElem?_map] at ha
  cases hh : st[(ixT ts x).toNat]? with
  | none => rw [hh] at ha; cases ha
  | some s =>
    rw [hh] at ha
    obtain ⟨hlt, rfl⟩ := List.getElem?_eq_some_iff.1 hh
    obtain ⟨lab, ⟨i0, _, hinv⟩, _⟩ := h.tab _ (by rw [← h.len]; exact hlt) hlt
    exact Tb.f64 hinv ha
end
end Go.Proofs.YtjepplacnaoomaaGreat
namespace Go.Proofs.YtjepplacnaoomaaGreat
open Go Go.RowKit Go.Proofs Co Co.S Par
theorem grown_set3 (w : World) (g : Nat) (a b c : Value) : w.grownBy (((w.setCell ⟨g, 0, none⟩ a).setCell ⟨g, 1, none⟩ b).setCell ⟨g, 2, none⟩ c) (some g) :=
  ⟨rfl, rfl, rfl, by simp [World.setCell], fun i _ hk => by
    have h : i ≠ g := fun e => hk (by rw [e])
    rw [heap_setCell_other _ _ i _ h, heap_setCell_other _ _ i _ h, heap_setCell_other _ _ i _ h]⟩
/-- What is known of the values (but of the store, at s), and the result's box. -/
structure JV (W : World) (B s : Nat) (E : Nat → Value) (u : T3) (l : Nat → Bool) (vs : Nat → Value) (w : World) : Prop where
  bel : Below W.heap.size W w
  ev : ∀ j, j ≠ s → l j = true → vs j = E j
  own : ∃ x0 x1 x2, w.heap[B]? = some (.cells #[x0, x1, x2] 26) ∧ (l s = true → x0 = .int .i64 u.1 ∧ x1 = .int .i64 u.2.1 ∧ x2 = .string u.2.2)
section
variable {W w w' : World} {B s : Nat} {E : Nat → Value} {u : T3} {l : Nat → Bool} {vs : Nat → Value}
theorem JV.up (h : JV W B s E u l vs w) (i : Nat) (hi : i ≠ s) : JV W B s E u (upB l i) (upV vs i (E i)) w := by
  refine ⟨h.bel, fun j hj hl => ?_, ?_⟩
  · by_cases e : j = i
    · subst e; rw [upV_eq]
    · rw [upV_ne e]; rw [upB_ne e] at hl; exact h.ev j hj hl
  · obtain ⟨x0, x1, x2, h1, h2⟩ := h.own
    exact ⟨x0, x1, x2, h1, fun hl => h2 (by rwa [upB_ne (fun e => hi e.symm)] at hl)⟩
theorem JV.call (h : JV W B s E u l vs w) (hb : Below w.heap.size w w') (i : Nat) (hi : i ≠ s) : JV W B s E u (upB l i) (upV vs i (E i)) w' := by
  have h' : JV W B s E u l vs w' := by
    obtain ⟨x0, x1, x2, h1, h2⟩ := h.own
    exact ⟨below_on h.bel hb, h.ev, x0, x1, x2, heap_on hb h1, h2⟩
  exact h'.up i hi
theorem JV.store (h : JV W B s E u l vs w) (hB : W.heap.size ≤ B) (v : Value) : JV W B s E u (upB l s) (upV vs s v) (((w.setCell ⟨B, 0, none⟩ (.int .i64 u.1)).setCell ⟨B, 1, none⟩ (.int .i64 u.2.1)).setCell ⟨B, 2, none⟩ (.string u.2.2)) := by
  obtain ⟨x0, x1, x2, h1, h2⟩ := h.own
  refine ⟨below_set3 h.bel hB _ _ _, fun j hj hl => ?_, _, _, _, set3 h1 _ _ _, fun _ => ⟨rfl, rfl, rfl⟩⟩
  rw [upV_ne hj]; rw [upB_ne hj] at hl; exact h.ev j hj hl
theorem JV.box (h : JV W B s E u l vs w) : B < w.heap.size ∧ (∀ j, w.frozen? ⟨B, j, none⟩ = false) ∧ (∃ v, w.cell? ⟨B, 0, none⟩ = some v) ∧ (∃ v, w.cell? ⟨B, 1, none⟩ = some v) ∧ ∃ v, w.cell? ⟨B, 2, none⟩ = some v := by
  obtain ⟨x0, x1, x2, h1, _⟩ := h.own
  exact ⟨lt_of_heap h1, fun j => frozen_of_row w B j _ _ h1, ⟨_, nd_cell h1 0⟩, ⟨_, nd_cell h1 1⟩, ⟨_, nd_cell h1 2⟩⟩
end
end Go.Proofs.YtjepplacnaoomaaGreat
