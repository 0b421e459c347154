/- A table, the reference's, and two copies: they go their own ways. The first state: a table and the reference's, new. -/
import Derived.Test.YtffpmmphpdkkbaaGreatMEA
namespace Go.Proofs.YtffpmmphpdkkbaaGreat
open Go Go.RowKit Go.Proofs Co Co.S
/-- The table tb and the reference's b, each as it is now; ob and db lie still; K too. -/
structure QS (W w : World) (K : Nat → Prop) (tb n : Nat) (A : List R1) (b m : Nat) (B : List R1) (ob o : Nat) (C : List R1) (db p : Nat) (D : List R1) : Prop where
  ex : ∃ L1 L2 L3 L4 : Nat → Nat, Tb w tb tShop n A L1 ∧ (∃ i, DbM w b tShop m B i L2) ∧ Tb w ob tShop o C L3 ∧ (∃ i, DbM w db tShop p D i L4) ∧
    (∀ q, L1 q ≠ 0 → W.heap.size ≤ q ∧ L2 q = 0 ∧ L3 q = 0 ∧ L4 q = 0 ∧ ¬ K q) ∧ (∀ q, L2 q ≠ 0 → W.heap.size ≤ q ∧ L1 q = 0 ∧ L3 q = 0 ∧ L4 q = 0 ∧ ¬ K q)
  kl : ∀ q, K q → q < w.heap.size
  bl : Below W.heap.size W w
section
variable {W w w' : World} {K : Nat → Prop} {tb n : Nat} {A : List R1} {b m : Nat} {B : List R1} {ob o : Nat} {C : List R1} {db p : Nat} {D : List R1}
theorem QS.later (h : QS W w K tb n A b m B ob o C db p D) (hb : Below w.heap.size w w') : QS W w' K tb n A b m B ob o C db p D := by
  obtain ⟨⟨L1, L2, L3, L4, t1, ⟨i, t2⟩, t3, ⟨j, t4⟩, f1, f2⟩, kl, bl⟩ := h
  exact ⟨⟨L1, L2, L3, L4, t1.later hb, ⟨i, t2.later hb⟩, t3.later hb, ⟨j, t4.later hb⟩, f1, f2⟩, fun q hq => Nat.lt_of_lt_of_le (kl q hq) hb.size, bl.trans (hb.mono bl.size)⟩
/-- What is laid now lies still. -/
theorem QS.hold {K' : Nat → Prop} (h : QS W w K tb n A b m B ob o C db p D) (hb : Below w.heap.size w w') (hK : ∀ q, K' q → w.heap.size ≤ q ∧ q < w'.heap.size) : QS W w' K' tb n A b m B ob o C db p D := by
  have h' := h.later hb
  obtain ⟨⟨L1, L2, L3, L4, t1, ⟨i, t2⟩, t3, ⟨j, t4⟩, f1, f2⟩, kl, bl⟩ := h
  have hl1 := t1.lt
  have hl2 := t2.lt
  refine ⟨⟨L1, L2, L3, L4, t1.later hb, ⟨i, t2.later hb⟩, t3.later hb, ⟨j, t4.later hb⟩, fun q hq => ?_, fun q hq => ?_⟩, fun q hq => (hK q hq).2, h'.bl⟩
  · obtain ⟨a, b, c, d, _⟩ := f1 q hq
    exact ⟨a, b, c, d, fun k => by have := hl1 q hq; have := (hK q k).1; omega⟩
  · obtain ⟨a, b, c, d, _⟩ := f2 q hq
    exact ⟨a, b, c, d, fun k => by have := hl2 q hq; have := (hK q k).1; omega⟩
theorem QS.drop (h : QS W w K tb n A b m B ob o C db p D) : QS W w (fun _ => False) tb n A b m B ob o C db p D := h.hold (Below.refl _ _) (fun _ h => h.elim)
/-- The table turns. -/
theorem QS.turn1 (h : QS W w K tb n A b m B ob o C db p D) {n' : Nat} {A' : List R1} {f : FuncId} {args : Array Value} {R : Ending → Prop}
    (k : ∀ L1, Tb w tb tShop n A L1 → (∀ q, K q → L1 q = 0) → Calls Tryz.prog f args w fun e w' => R e ∧ ∃ L1', Tb w' tb tShop n' A' L1' ∧ Ext w L1 L1' ∧ Tn (fun q => L1 q ≠ 0) w w') :
    Calls Tryz.prog f args w fun e w' => R e ∧ QS W w' K tb n' A' b m B ob o C db p D ∧ ∀ q, K q → w'.heap[q]? = w.heap[q]? := by
  obtain ⟨⟨L1, L2, L3, L4, t1, ⟨i, t2⟩, t3, ⟨j, t4⟩, f1, f2⟩, kl, bl⟩ := h
  have hK : ∀ q, K q → L1 q = 0 := fun q hq => Classical.byContradiction fun hn => (f1 q hn).2.2.2.2 hq
  refine (k L1 t1 hK).mono ?_
  rintro e w' ⟨hR, L1', k1, k2, k3⟩
  have hl2 := t2.lt
  have hl3 := t3.lt
  have hl4 := t4.lt
  refine ⟨hR, ⟨⟨L1', L2, L3, L4, k1, ⟨i, t2.tn k3 (fun q hq => (f1 q hq).2.1)⟩, t3.tn k3 (fun q hq => (f1 q hq).2.2.1), ⟨j, t4.tn k3 (fun q hq => (f1 q hq).2.2.2.1)⟩, fun q hq => ?_, fun q hq => ?_⟩, fun q hq => Nat.lt_of_lt_of_le (kl q hq) k3.size, bl.trans (k3.chg.below bl.size (fun q hq hn => by have := (f1 q hn).1; omega))⟩, fun q hq => k3.chg.block q (kl q hq) (fun hn => hn (hK q hq))⟩
  · rcases Nat.lt_or_ge q w.heap.size with hlt | hge
    · rw [k2 q hlt] at hq; exact f1 q hq
    · have z : ∀ L : Nat → Nat, (∀ q, L q ≠ 0 → q < w.heap.size) → L q = 0 := fun L hL => Classical.byContradiction fun hn => by have := hL q hn; omega
      exact ⟨by have := bl.size; omega, z L2 hl2, z L3 hl3, z L4 hl4, fun hk => by have := kl q hk; omega⟩
  · obtain ⟨a, b, c, d, e⟩ := f2 q hq
    exact ⟨a, by rw [k2 q (hl2 q hq)]; exact b, c, d, e⟩
/-- The reference's turns. -/
theorem QS.turn2 (h : QS W w K tb n A b m B ob o C db p D) {m' : Nat} {B' : List R1} {f : FuncId} {args : Array Value} {R : Ending → Prop}
    (k : ∀ L2 i, DbM w b tShop m B i L2 → (∀ q, K q → L2 q = 0) → Calls Tryz.prog f args w fun e w' => R e ∧ ∃ i' L2', DbM w' b tShop m' B' i' L2' ∧ Ext w L2 L2' ∧ Tn (fun q => L2 q ≠ 0) w w') :
    Calls Tryz.prog f args w fun e w' => R e ∧ QS W w' K tb n A b m' B' ob o C db p D ∧ ∀ q, K q → w'.heap[q]? = w.heap[q]? := by
  obtain ⟨⟨L1, L2, L3, L4, t1, ⟨i, t2⟩, t3, ⟨j, t4⟩, f1, f2⟩, kl, bl⟩ := h
  have hK : ∀ q, K q → L2 q = 0 := fun q hq => Classical.byContradiction fun hn => (f2 q hn).2.2.2.2 hq
  refine (k L2 i t2 hK).mono ?_
  rintro e w' ⟨hR, i', L2', k1, k2, k3⟩
  have hl1 := t1.lt
  have hl3 := t3.lt
  have hl4 := t4.lt
  refine ⟨hR, ⟨⟨L1, L2', L3, L4, t1.tn k3 (fun q hq => (f2 q hq).2.1), ⟨i', k1⟩, t3.tn k3 (fun q hq => (f2 q hq).2.2.1), ⟨j, t4.tn k3 (fun q hq => (f2 q hq).2.2.2.1)⟩, fun q hq => ?_, fun q hq => ?_⟩, fun q hq => Nat.lt_of_lt_of_le (kl q hq) k3.size, bl.trans (k3.chg.below bl.size (fun q hq hn => by have := (f2 q hn).1; omega))⟩, fun q hq => k3.chg.block q (kl q hq) (fun hn => hn (hK q hq))⟩
  · obtain ⟨a, b, c, d, e⟩ := f1 q hq
    exact ⟨a, by rw [k2 q (hl1 q hq)]; exact b, c, d, e⟩
  · rcases Nat.lt_or_ge q w.heap.size with hlt | hge
    · rw [k2 q hlt] at hq; exact f2 q hq
    · have z : ∀ L : Nat → Nat, (∀ q, L q ≠ 0 → q < w.heap.size) → L q = 0 := fun L hL => Classical.byContradiction fun hn => by have := hL q hn; omega
      exact ⟨by have := bl.size; omega, z L1 hl1, z L3 hl3, z L4 hl4, fun hk => by have := kl q hk; omega⟩
theorem QS.facts (h : QS W w K tb n A b m B ob o C db p D) : A.length ≤ n ∧ n ≤ 65536 ∧ ∀ a ∈ A, 0 ≤ a.1 ∧ a.1 < (n : Int) := by
  obtain ⟨⟨L1, L2, L3, L4, t1, _⟩, _⟩ := h
  obtain ⟨i, _, h2⟩ := t1
  exact ⟨by have := h2.few; omega, h2.lim, h2.rng⟩
theorem sh4 : tShop.cols.length = 4 := rfl
def insN (n : Nat) (vals : List T3) : Nat := if insE tShop vals = 0 then n + 1 else n
def insI (n : Nat) (vals : List T3) : Int := if insE tShop vals = 0 then (n : Int) else 0
def insA (n : Nat) (A : List R1) (vals : List T3) : List R1 := if insE tShop vals = 0 then A ++ [((n : Int), vals)] else A
theorem q_tins (h : QS W w K tb n A b m B ob o C db p D) {S : Nat → Prop} {vv : Value} {vals : List T3} (hv : InV S w vv vals) (hS : ∀ q, S q → K q) (hs : ∀ x ∈ vals, x.2.2.size ≤ maxLen) (hl : vals.length ≤ 1000000) (hn : n ≤ 390) :
    Calls Tryz.prog 14 #[(Value.pointer (some ⟨tb, 0, none⟩)), vv] w fun e w' => e = .returned (.tuple #[.int .i64 (insI n vals), .int .i64 (insE tShop vals)]) ∧ QS W w' K tb (insN n vals) (insA n A vals) b m B ob o C db p D ∧ ∀ q, K q → w'.heap[q]? = w.heap[q]? := by
  refine h.turn1 (R := fun e => e = .returned (.tuple #[.int .i64 (insI n vals), .int .i64 (insE tShop vals)])) (fun L1 t1 hK => ?_)
  unfold insI insN insA
  by_cases e : insE tShop vals = 0
  · rw [if_pos e, if_pos e, if_pos e, e]
    exact tb_ins_yes t1 hv (fun q hq => hK q (hS q hq)) hn (by rw [sh4]; decide) hs hl e
  · rw [if_neg e, if_neg e, if_neg e]
    refine (tb_ins_no t1 hv (by omega) (by rw [sh4]; decide) hs hl e).mono ?_
    rintro e w' ⟨rfl, hb⟩
    exact ⟨rfl, L1, t1.later hb, Ext.refl _ _, Tn.of_below hb⟩
theorem q_dins (h : QS W w K tb n A b m B ob o C db p D) {S : Nat → Prop} {vv : Value} {vals : List T3} (hv : InV S w vv vals) (hS : ∀ q, S q → K q) (hs : ∀ x ∈ vals, x.2.2.size ≤ maxLen) (hl : vals.length ≤ 1000000) (hm : m ≤ 390) (hBl : B.length ≤ 100000) (hid : ∀ a ∈ B, a.1 < (m : Int)) :
    Calls Tryz.prog 15 #[(Value.pointer (some ⟨b, 0, none⟩)), .int .i64 0, vv] w fun e w' => e = .returned (.tuple #[.int .i64 (insI m vals), .int .i64 (insE tShop vals)]) ∧ QS W w' K tb n A b (insN m vals) (insA m B vals) ob o C db p D ∧ ∀ q, K q → w'.heap[q]? = w.heap[q]? := by
  refine h.turn2 (R := fun e => e = .returned (.tuple #[.int .i64 (insI m vals), .int .i64 (insE tShop vals)])) (fun L2 i t2 hK => ?_)
  unfold insI insN insA
  by_cases e : insE tShop vals = 0
  · rw [if_pos e, if_pos e, if_pos e, e]
    exact dins_yes t2 hv (fun q hq => hK q (hS q hq)) hs (by rw [sh4]; decide) (by rw [sh4]; decide) hl hBl (by omega) hid e
  · rw [if_neg e, if_neg e, if_neg e]
    refine (dins_no t2 hv hs (by rw [sh4]; decide) hl e).mono ?_
    rintro e w' ⟨rfl, hb⟩
    exact ⟨rfl, i, L2, t2.later hb, Ext.refl _ _, Tn.of_below hb⟩
theorem without_none {A : List R1} {x : Int} (h : ∀ a ∈ A, a.1 ≠ x) : without A x = A := by
  unfold without
  rw [List.filter_eq_self]
  intro a ha
  simpa using h a ha
theorem q_tdel (h : QS W w K tb n A b m B ob o C db p D) {x : Int} (hx : F64 x) (hn : n ≤ 800) :
    Calls Tryz.prog 16 #[(Value.pointer (some ⟨tb, 0, none⟩)), .int .i64 x] w fun e w' => e = .returned (.bool (A.any fun a => decide (a.1 = x))) ∧ QS W w' K tb n (without A x) b m B ob o C db p D ∧ ∀ q, K q → w'.heap[q]? = w.heap[q]? := by
  refine h.turn1 (R := fun e => e = .returned (.bool (A.any fun a => decide (a.1 = x)))) (fun L1 t1 hK => ?_)
  by_cases hin : ∃ a ∈ A, a.1 = x
  · rw [ids_any.2 hin]
    obtain ⟨a, ha, rfl⟩ := hin
    exact tb_del_yes t1 ha hn (by rw [sh4]; decide)
  · have hno : ∀ a ∈ A, a.1 ≠ x := fun a ha e => hin ⟨a, ha, e⟩
    rw [Bool.eq_false_iff.2 (fun hh => hin (ids_any.1 hh)), without_none hno]
    refine (tb_del_no t1 hx hno).mono ?_
    rintro e w' ⟨rfl, rfl⟩
    exact ⟨rfl, L1, t1, Ext.refl _ _, Tn.refl _ _⟩
theorem q_ddel (h : QS W w K tb n A b m B ob o C db p D) {x : Int} (hBl : B.length ≤ 100000) :
    Calls Tryz.prog 17 #[(Value.pointer (some ⟨b, 0, none⟩)), .int .i64 0, .int .i64 x] w fun e w' => e = .returned (.bool (B.any fun a => decide (a.1 = x))) ∧ QS W w' K tb n A b m (without B x) ob o C db p D ∧ ∀ q, K q → w'.heap[q]? = w.heap[q]? := by
  refine h.turn2 (R := fun e => e = .returned (.bool (B.any fun a => decide (a.1 = x)))) (fun L2 i t2 hK => ?_)
  by_cases hin : ∃ a ∈ B, a.1 = x
  · rw [ids_any.2 hin]
    obtain ⟨a, ha, rfl⟩ := hin
    obtain ⟨k, hk, rfl⟩ := List.getElem_of_mem ha
    exact ddel_yes t2 hBl hk
  · have hno : ∀ a ∈ B, a.1 ≠ x := fun a ha e => hin ⟨a, ha, e⟩
    rw [Bool.eq_false_iff.2 (fun hh => hin (ids_any.1 hh)), without_none hno]
    refine (ddel_no t2 hBl hno).mono ?_
    rintro e w' ⟨rfl, rfl⟩
    exact ⟨rfl, i, L2, t2, Ext.refl _ _, Tn.refl _ _⟩
def setR (A : List R1) (x : Int) (y : ByteArray) (u : T3) : List R1 := if setE tShop A x y u = 0 then setA A x (ixC tShop.cols y).toNat u else A
theorem q_tset (h : QS W w K tb n A b m B ob o C db p D) {x : Int} (hx : F64 x) (hn : n ≤ 800) (y : ByteArray) (k n1 : Int) (s : ByteArray) (hs : s.size ≤ maxLen) :
    Calls Tryz.prog 18 #[(Value.pointer (some ⟨tb, 0, none⟩)), .int .i64 x, .string y, (Value.agg #[Value.int .i64 (k), Value.int .i64 (n1), Value.string (s)])] w fun e w' => e = .returned (.int .i64 (setE tShop A x y (k, n1, s))) ∧ QS W w' K tb n (setR A x y (k, n1, s)) b m B ob o C db p D ∧ ∀ q, K q → w'.heap[q]? = w.heap[q]? := by
  refine h.turn1 (R := fun e => e = .returned (.int .i64 (setE tShop A x y (k, n1, s)))) (fun L1 t1 hK => ?_)
  unfold setR
  by_cases e : setE tShop A x y (k, n1, s) = 0
  · rw [if_pos e, e]
    unfold setE at e
    by_cases hin : A.any (fun a => decide (a.1 = x)) = true
    · rw [if_pos hin] at e
      by_cases h0 : 0 ≤ ixC tShop.cols y
      · rw [if_pos h0] at e
        rcases ixC_cases tShop.cols y with hi | ⟨j, hj, hi⟩
        · rw [hi] at h0; omega
        · rw [hi] at e ⊢
          rw [Int.toNat_natCast, List.getElem?_eq_getElem hj] at e
          by_cases hc : inC tShop.cols[j].kd (k, n1, s) = true
          · obtain ⟨a, ha, rfl⟩ := ids_any.1 hin
            rw [Int.toNat_natCast]
            exact tb_set_yes t1 ha hn hj hi k n1 s hs hc
          · rw [Option.getD_some, if_neg hc] at e; cases e
      · rw [if_neg h0] at e; cases e
    · rw [if_neg hin] at e; cases e
  · rw [if_neg e]
    refine (tb_set_no t1 hx y k n1 s hs e).mono ?_
    rintro e w' ⟨rfl, hb⟩
    exact ⟨rfl, L1, t1.later hb, Ext.refl _ _, Tn.of_below hb⟩
theorem q_dset (h : QS W w K tb n A b m B ob o C db p D) {x : Int} (hBl : B.length ≤ 100000) (y : ByteArray) (k n1 : Int) (s : ByteArray) (hs : s.size ≤ maxLen) :
    Calls Tryz.prog 19 #[(Value.pointer (some ⟨b, 0, none⟩)), .int .i64 0, .int .i64 x, .string y, (Value.agg #[Value.int .i64 (k), Value.int .i64 (n1), Value.string (s)])] w fun e w' => e = .returned (.int .i64 (setE tShop B x y (k, n1, s))) ∧ QS W w' K tb n A b m (setR B x y (k, n1, s)) ob o C db p D ∧ ∀ q, K q → w'.heap[q]? = w.heap[q]? := by
  refine h.turn2 (R := fun e => e = .returned (.int .i64 (setE tShop B x y (k, n1, s)))) (fun L2 i t2 hK => ?_)
  refine (dset_any t2 hBl (by rw [sh4]; decide) x y k n1 s hs).mono ?_
  rintro e w' ⟨rfl, h1, h2⟩
  exact ⟨rfl, i, L2, h1, Ext.refl _ _, h2⟩
/-- Both are copied. -/
theorem q_tcopy (h : QS W w K tb n A b m B ob o C db p D) (hn : n ≤ 390) :
    Calls Tryz.prog 10 #[(Value.pointer (some ⟨tb, 0, none⟩))] w fun e w' => ∃ ob', e = .returned (Value.pointer (some ⟨ob', 0, none⟩)) ∧ QS W w' K tb n A b m B ob' n A db p D ∧ Below w.heap.size w w' := by
  have h' := h
  obtain ⟨⟨L1, L2, L3, L4, t1, ⟨i, t2⟩, t3, ⟨j, t4⟩, f1, f2⟩, kl, bl⟩ := h
  refine (tb_copy t1 few_shop kd_shop hn (by rw [sh4]; decide)).mono ?_
  rintro e w' ⟨ob', L3', rfl, k1, k2, hb⟩
  have z : ∀ L : Nat → Nat, (∀ q, L q ≠ 0 → q < w.heap.size) → ∀ q, L q ≠ 0 → L3' q = 0 := fun L hL q hq => Classical.byContradiction fun hn => by have := hL q hq; have := k2 q hn; omega
  refine ⟨ob', rfl, ⟨⟨L1, L2, L3', L4, t1.later hb, ⟨i, t2.later hb⟩, k1, ⟨j, t4.later hb⟩, fun q hq => ?_, fun q hq => ?_⟩, (h'.later hb).kl, (h'.later hb).bl⟩, hb⟩
  · obtain ⟨a, b, c, d, e⟩ := f1 q hq
    exact ⟨a, b, z L1 t1.lt q hq, d, e⟩
  · obtain ⟨a, b, c, d, e⟩ := f2 q hq
    exact ⟨a, b, z L2 t2.lt q hq, d, e⟩
theorem q_dcopy (h : QS W w K tb n A b m B ob o C db p D) (hBl : B.length ≤ 100000) :
    Calls Tryz.prog 11 #[(Value.pointer (some ⟨b, 0, none⟩))] w fun e w' => ∃ db', e = .returned (Value.pointer (some ⟨db', 0, none⟩)) ∧ QS W w' K tb n A b m B ob o C db' m B ∧ Below w.heap.size w w' := by
  have h' := h
  obtain ⟨⟨L1, L2, L3, L4, t1, ⟨i, t2⟩, t3, ⟨j, t4⟩, f1, f2⟩, kl, bl⟩ := h
  refine (dcopy_any t2 hBl (by rw [sh4]; decide) (by rw [sh4]; decide)).mono ?_
  rintro e w' ⟨db', i', L4', rfl, k1, k2, hb⟩
  have z : ∀ L : Nat → Nat, (∀ q, L q ≠ 0 → q < w.heap.size) → ∀ q, L q ≠ 0 → L4' q = 0 := fun L hL q hq => Classical.byContradiction fun hn => by have := hL q hq; have := k2 q hn; omega
  refine ⟨db', rfl, ⟨⟨L1, L2, L3, L4', t1.later hb, ⟨i, t2.later hb⟩, t3.later hb, ⟨i', k1⟩, fun q hq => ?_, fun q hq => ?_⟩, (h'.later hb).kl, (h'.later hb).bl⟩, hb⟩
  · obtain ⟨a, b, c, d, e⟩ := f1 q hq
    exact ⟨a, b, c, z L1 t1.lt q hq, e⟩
  · obtain ⟨a, b, c, d, e⟩ := f2 q hq
    exact ⟨a, b, c, z L2 t2.lt q hq, e⟩
end
end Go.Proofs.YtffpmmphpdkkbaaGreat
namespace Go.Proofs.YtffpmmphpdkkbaaGreat
open Go Go.RowKit Go.Proofs Co Co.S
section
variable {W w w' : World} {O : Nat} {t : T} {next : Nat} {fc fd sv ov nv rv : Value} {A : List R1} {vs : List Value}
/-- The copy is laid. -/
theorem CpD.fin2 (hrd : RdT w fc fd t) (hlen : ∀ a ∈ A, a.2.length = t.cols.length) (hsrt : A.Pairwise (fun a b => a.1 < b.1)) (h : CpD W w O t next fc fd sv ov nv rv A vs) (ho : HRow w W.heap.size 88 1 ov 1 [rv]) : ∃ i' lab', DbM w O t next A i' lab' ∧ (∀ q, lab' q ≠ 0 → W.heap.size ≤ q) ∧ Below W.heap.size W w := by
  have hO : ∀ {base : Nat} {e : TypeId} {s : Nat} {u : Value} {n : Nat} {xs : List Value}, HRow w base e s u n xs → e ≠ 37 → ∀ q, u.ownBlock = some q → q ≠ O := fun hu hne q hq e => by
    obtain ⟨_, c1, h1⟩ := hu.block q hq
    rw [e, h.box] at h1
    simp at h1
    exact hne h1.2.symm
  have hrow : ∀ k (hk : k < vs.length), HRow w W.heap.size 53 3 vs[k] (A[k]'(by rw [← h.n]; exact hk)).2.length (cells3 (A[k]'(by rw [← h.n]; exact hk)).2) := fun k hk => h.vals k (by rw [← h.n]; exact hk) hk
  have hany : ∀ q, vs.any (fun v => decide (v.ownBlock = some q)) = true → ∃ k, ∃ hk : k < vs.length, vs[k].ownBlock = some q := fun q hq => by
    obtain ⟨v, hv, h2⟩ := List.any_eq_true.1 hq
    obtain ⟨k, hk, rfl⟩ := List.getElem_of_mem hv
    exact ⟨k, hk, by simpa using h2⟩
  have hin : ∀ q, (if q = O then 1 else if ov.ownBlock = some q then 2 else if rv.ownBlock = some q then 3 else if nv.ownBlock = some q then 4 else if vs.any (fun v => decide (v.ownBlock = some q)) = true then 5 else 0) ≠ 0 → W.heap.size ≤ q ∧ q < w.heap.size := fun q hq => by
    by_cases e1 : q = O
    · rw [e1]; exact ⟨h.lo, lt_of_heap h.box⟩
    rw [if_neg e1] at hq
    by_cases e2 : ov.ownBlock = some q
    · exact HRow.lt ho q e2
    rw [if_neg e2] at hq
    by_cases e3 : rv.ownBlock = some q
    · exact HRow.lt h.rows q e3
    rw [if_neg e3] at hq
    by_cases e4 : nv.ownBlock = some q
    · exact HRow.lt h.nx q e4
    rw [if_neg e4] at hq
    by_cases e5 : vs.any (fun v => decide (v.ownBlock = some q)) = true
    · obtain ⟨k, hk, e⟩ := hany q e5
      exact HRow.lt (hrow k hk) q e
    · rw [if_neg e5] at hq; exact absurd rfl hq
  refine ⟨⟨fc, fd, sv, ov, nv, rv, vs⟩, fun q => if q = O then 1 else if ov.ownBlock = some q then 2 else if rv.ownBlock = some q then 3 else if nv.ownBlock = some q then 4 else if vs.any (fun v => decide (v.ownBlock = some q)) = true then 5 else 0,
    ⟨h.box, HRow.mono h.form (Nat.zero_le _), hrd, HRow.mono ho (Nat.zero_le _), HRow.mono h.rows (Nat.zero_le _), h.n, fun k a c => HRow.mono (h.vals k a c) (Nat.zero_le _), HRow.mono h.nx (Nat.zero_le _), h.sep, if_pos rfl, fun q hq => ?_, fun q hq => ?_, fun q hq => ?_, fun k hk q hq => ?_, fun q hq => (hin q hq).2, hlen, hsrt⟩, fun q hq => (hin q hq).1, h.bl⟩
  · have hq : ov.ownBlock = some q := hq
    show (if q = O then 1 else _) = 2
    rw [if_neg (hO ho (by decide) q hq), if_pos hq]
  · have hq : rv.ownBlock = some q := hq
    show (if q = O then 1 else if ov.ownBlock = some q then 2 else _) = 3
    rw [if_neg (hO h.rows (by decide) q hq), if_neg (h.rows.apart ho (by decide) hq), if_pos hq]
  · have hq : nv.ownBlock = some q := hq
    show (if q = O then 1 else if ov.ownBlock = some q then 2 else if rv.ownBlock = some q then 3 else _) = 4
    rw [if_neg (hO h.nx (by decide) q hq), if_neg (h.nx.apart ho (by decide) hq), if_neg (h.nx.apart h.rows (by decide) hq), if_pos hq]
  · have hq : vs[k].ownBlock = some q := hq
    have hk : k < vs.length := hk
    show (if q = O then 1 else if ov.ownBlock = some q then 2 else if rv.ownBlock = some q then 3 else if nv.ownBlock = some q then 4 else _) = 5
    have hr := hrow k hk
    rw [if_neg (hO hr (by decide) q hq), if_neg (hr.apart ho (by decide) hq), if_neg (hr.apart h.rows (by decide) hq), if_neg (hr.apart h.nx (by decide) hq), if_pos (List.any_eq_true.2 ⟨_, List.getElem_mem hk, by simp [hq]⟩)]
end
theorem hrow_new (w : World) (cs : Array Value) (e : TypeId) (s : Nat) (hs : cs.size = s) : HRow (w.alloc (.cells cs e)) w.heap.size e s (.slice (some ⟨w.heap.size, 0, none⟩) 1 1) 1 cs.toList := by
  refine ⟨by simp [hs], .inr ⟨w.heap.size, 1, cs, rfl, Nat.le_refl _, heap_alloc_new w _, Nat.le_refl _, by unfold maxLen; omega, by omega, by rw [List.take_of_length_le]; simp [hs]⟩⟩
/-- What holds where the reference's is made. -/
structure NJ (W : World) (t : T) (nm key : ByteArray) (nc nd : Nat) (l : Nat → Bool) (vs : Nat → Value) (w : World) : Prop where
  bl : Below W.heap.size W w
  f0 : l 0 = true → ∃ p c q d, vs 0 = .agg #[.string nm, .slice p nc c, .string key, .slice q nd d] ∧ RdT w (.slice p nc c) (.slice q nd d) t ∧ (l 1 = true → ∃ g, vs 1 = .slice (some ⟨g, 0, none⟩) 1 1 ∧ HRow w W.heap.size 29 4 (.slice (some ⟨g, 0, none⟩) 1 1) 1 [.string nm, .slice p nc c, .string key, .slice q nd d])
  f2 : l 2 = true → ∃ g, vs 2 = .slice (some ⟨g, 0, none⟩) 1 1 ∧ HRow w W.heap.size 88 1 (.slice (some ⟨g, 0, none⟩) 1 1) 1 [.slice none 0 0]
  f3 : l 3 = true → ∃ g, vs 3 = .slice (some ⟨g, 0, none⟩) 1 1 ∧ HRow w W.heap.size 3 1 (.slice (some ⟨g, 0, none⟩) 1 1) 1 [.int .i64 0]
  f4 : l 4 = true → vs 4 = .agg #[vs 1, vs 2, vs 3]
section
open Par
variable {W w w' : World} {t : T} {nm key : ByteArray} {nc nd : Nat} {l : Nat → Bool} {vs : Nat → Value}
theorem NJ.later (h : NJ W t nm key nc nd l vs w) (hb : Below w.heap.size w w') : NJ W t nm key nc nd l vs w' := by
  refine ⟨below_on h.bl hb, fun hl => ?_, fun hl => ?_, fun hl => ?_, h.f4⟩
  · obtain ⟨p, c, q, d, e, h1, h2⟩ := h.f0 hl
    refine ⟨p, c, q, d, e, h1.kp (Tn.of_below (S := fun _ => False) hb).kpX, fun hl => ?_⟩
    obtain ⟨g, e2, h3⟩ := h2 hl
    exact ⟨g, e2, h3.later hb⟩
  · obtain ⟨g, e, h1⟩ := h.f2 hl
    exact ⟨g, e, h1.later hb⟩
  · obtain ⟨g, e, h1⟩ := h.f3 hl
    exact ⟨g, e, h1.later hb⟩
theorem NJ.s0 (h : NJ W t nm key nc nd l vs w) (h1 : l 1 = false) (h4 : l 4 = false) (hb : Below w.heap.size w w') {p q : Option Addr} {c d : Nat} (hr : RdT w' (.slice p nc c) (.slice q nd d) t) : NJ W t nm key nc nd (upB l 0) (upV vs 0 (.agg #[.string nm, .slice p nc c, .string key, .slice q nd d])) w' := by
  have k := h.later hb
  refine ⟨k.bl, fun _ => ⟨p, c, q, d, upV_eq, hr, fun hl => ?_⟩, fun hl => ?_, fun hl => ?_, fun hl => ?_⟩
  · rw [upB_ne (by decide), h1] at hl; cases hl
  · rw [upB_ne (by decide)] at hl
    rw [upV_ne (by decide)]; exact k.f2 hl
  · rw [upB_ne (by decide)] at hl
    rw [upV_ne (by decide)]; exact k.f3 hl
  · rw [upB_ne (by decide), h4] at hl; cases hl
theorem NJ.s1 (h : NJ W t nm key nc nd l vs w) (h0 : l 0 = true) (h4 : l 4 = false) {p q : Option Addr} {c d : Nat} (e0 : vs 0 = .agg #[.string nm, .slice p nc c, .string key, .slice q nd d]) : NJ W t nm key nc nd (upB l 1) (upV vs 1 (.slice (some ⟨w.heap.size, 0, none⟩) 1 1)) (w.alloc (.cells #[.string nm, .slice p nc c, .string key, .slice q nd d] 29)) := by
  have hb := below_alloc w (.cells #[.string nm, .slice p nc c, .string key, .slice q nd d] 29)
  have k := h.later hb
  refine ⟨k.bl, fun _ => ?_, fun hl => ?_, fun hl => ?_, fun hl => ?_⟩
  · obtain ⟨p', c', q', d', e, k1, _⟩ := k.f0 h0
    rw [e0] at e
    cases e
    exact ⟨p, c, q, d, by rw [upV_ne (by decide)]; exact e0, k1, fun _ => ⟨w.heap.size, upV_eq, HRow.mono (hrow_new w #[.string nm, .slice p nc c, .string key, .slice q nd d] 29 4 rfl) h.bl.size⟩⟩
  · rw [upB_ne (by decide)] at hl
    rw [upV_ne (by decide)]; exact k.f2 hl
  · rw [upB_ne (by decide)] at hl
    rw [upV_ne (by decide)]; exact k.f3 hl
  · rw [upB_ne (by decide), h4] at hl; cases hl
theorem NJ.s2 (h : NJ W t nm key nc nd l vs w) (h4 : l 4 = false) : NJ W t nm key nc nd (upB l 2) (upV vs 2 (.slice (some ⟨w.heap.size, 0, none⟩) 1 1)) (w.alloc (.cells #[.slice none 0 0] 88)) := by
  have hb := below_alloc w (.cells #[.slice none 0 0] 88)
  have k := h.later hb
  refine ⟨k.bl, fun hl => ?_, fun hl => ⟨w.heap.size, upV_eq, HRow.mono (hrow_new w #[.slice none 0 0] 88 1 rfl) h.bl.size⟩, fun hl => ?_, fun hl => ?_⟩
  · rw [upB_ne (by decide)] at hl
    obtain ⟨p, c, q, d, e, k1, k2⟩ := k.f0 hl
    exact ⟨p, c, q, d, by rw [upV_ne (by decide)]; exact e, k1, fun hl => by rw [upB_ne (by decide)] at hl; rw [upV_ne (by decide)]; exact k2 hl⟩
  · rw [upB_ne (by decide)] at hl
    rw [upV_ne (by decide)]; exact k.f3 hl
  · rw [upB_ne (by decide), h4] at hl; cases hl
theorem NJ.s3 (h : NJ W t nm key nc nd l vs w) (h4 : l 4 = false) : NJ W t nm key nc nd (upB l 3) (upV vs 3 (.slice (some ⟨w.heap.size, 0, none⟩) 1 1)) (w.alloc (.cells #[.int .i64 0] 3)) := by
  have hb := below_alloc w (.cells #[.int .i64 0] 3)
  have k := h.later hb
  refine ⟨k.bl, fun hl => ?_, fun hl => ?_, fun hl => ⟨w.heap.size, upV_eq, HRow.mono (hrow_new w #[.int .i64 0] 3 1 rfl) h.bl.size⟩, fun hl => ?_⟩
  · rw [upB_ne (by decide)] at hl
    obtain ⟨p, c, q, d, e, k1, k2⟩ := k.f0 hl
    exact ⟨p, c, q, d, by rw [upV_ne (by decide)]; exact e, k1, fun hl => by rw [upB_ne (by decide)] at hl; rw [upV_ne (by decide)]; exact k2 hl⟩
  · rw [upB_ne (by decide)] at hl
    rw [upV_ne (by decide)]; exact k.f2 hl
  · rw [upB_ne (by decide), h4] at hl; cases hl
theorem NJ.s4 (h : NJ W t nm key nc nd l vs w) : NJ W t nm key nc nd (upB l 4) (upV vs 4 (.agg #[vs 1, vs 2, vs 3])) w := by
  refine ⟨h.bl, fun hl => ?_, fun hl => ?_, fun hl => ?_, fun hl => ?_⟩
  · rw [upB_ne (by decide)] at hl
    obtain ⟨p, c, q, d, e, k1, k2⟩ := h.f0 hl
    exact ⟨p, c, q, d, by rw [upV_ne (by decide)]; exact e, k1, fun hl => by rw [upB_ne (by decide)] at hl; rw [upV_ne (by decide)]; exact k2 hl⟩
  · rw [upB_ne (by decide)] at hl
    rw [upV_ne (by decide)]; exact h.f2 hl
  · rw [upB_ne (by decide)] at hl
    rw [upV_ne (by decide)]; exact h.f3 hl
  · rw [upV_eq, upV_ne (by decide), upV_ne (by decide), upV_ne (by decide)]
end
/-- What holds where both turn, in either order. -/
structure TJ (W w0 : World) (K : Nat → Prop) (E : Nat → Value) (i1 i2 : Nat) (tb b n : Nat) (A A' : List R1) (ob o : Nat) (C : List R1) (db : Nat) (l : Nat → Bool) (vs : Nat → Value) (w : World) : Prop where
  qs : QS W w K tb n (if l i1 = true then A' else A) b n (if l i2 = true then A' else A) ob o C db o C
  kp : ∀ q, K q → w.heap[q]? = w0.heap[q]?
  ev : ∀ j, l j = true → vs j = E j
section
open Par
variable {W w0 w w' : World} {K : Nat → Prop} {E : Nat → Value} {i1 i2 tb b n : Nat} {A A' : List R1} {ob o : Nat} {C : List R1} {db : Nat} {l : Nat → Bool} {vs : Nat → Value}
theorem ev_up (h : ∀ j, l j = true → vs j = E j) (i : Nat) : ∀ j, upB l i j = true → upV vs i (E i) j = E j := fun j hl => by
  by_cases e : j = i
  · subst e; rw [upV_eq]
  · rw [upV_ne e]; rw [upB_ne e] at hl; exact h j hl
theorem TJ.up (h : TJ W w0 K E i1 i2 tb b n A A' ob o C db l vs w) (i : Nat) (h1 : i1 ≠ i) (h2 : i2 ≠ i) : TJ W w0 K E i1 i2 tb b n A A' ob o C db (upB l i) (upV vs i (E i)) w :=
  ⟨by rw [upB_ne h1, upB_ne h2]; exact h.qs, h.kp, ev_up h.ev i⟩
theorem TJ.t1 (h : TJ W w0 K E i1 i2 tb b n A A' ob o C db l vs w) (hne : i2 ≠ i1) (hq : QS W w' K tb n A' b n (if l i2 = true then A' else A) ob o C db o C) (hk : ∀ q, K q → w'.heap[q]? = w.heap[q]?) : TJ W w0 K E i1 i2 tb b n A A' ob o C db (upB l i1) (upV vs i1 (E i1)) w' :=
  ⟨by rw [upB_eq, if_pos rfl, upB_ne hne]; exact hq, fun q hq => (hk q hq).trans (h.kp q hq), ev_up h.ev i1⟩
theorem TJ.t2 (h : TJ W w0 K E i1 i2 tb b n A A' ob o C db l vs w) (hne : i1 ≠ i2) (hq : QS W w' K tb n (if l i1 = true then A' else A) b n A' ob o C db o C) (hk : ∀ q, K q → w'.heap[q]? = w.heap[q]?) : TJ W w0 K E i1 i2 tb b n A A' ob o C db (upB l i2) (upV vs i2 (E i2)) w' :=
  ⟨by rw [upB_eq, if_pos rfl, upB_ne hne]; exact hq, fun q hq => (hk q hq).trans (h.kp q hq), ev_up h.ev i2⟩
end
end Go.Proofs.YtffpmmphpdkkbaaGreat
