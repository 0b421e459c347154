/- Contract of the reference's Big: Quo. -/
import Derived.Test.YtfcllangolinaaaI
import Derived.Test.YtfcllangolinaaaPar
import Derived.Deep.DeepCutAuto
namespace Go.Proofs.Ytfcllangolinaaa
open Go Go.RowKit

theorem refMinus_is (z : Int) (b : Bool) (h : decide (sm z < 0) = b) (w : World) :
    Calls Try.prog 33 #[.agg #[.int .u32 (dg (z) 0), .int .u32 (dg (z) 1), .int .u32 (dg (z) 2), .int .u32 (dg (z) 3), .int .u32 (dg (z) 4), .int .u32 (dg (z) 5), .int .u32 (dg (z) 6), .int .u32 (dg (z) 7)]] w fun e w' => e = .returned (.bool b) ∧ Below w.heap.size w w' := by subst h; exact refMinus_any z w
theorem refNum_ex (z : Int) (w : World) :
    Calls Try.prog 30 #[.agg #[.int .u32 (dg (z) 0), .int .u32 (dg (z) 1), .int .u32 (dg (z) 2), .int .u32 (dg (z) 3), .int .u32 (dg (z) 4), .int .u32 (dg (z) 5), .int .u32 (dg (z) 6), .int .u32 (dg (z) 7)]] w fun e w' => e = .returned (.tuple #[.int .i64 (numV z), .bool (numB z)]) ∧ Below w.heap.size w w' := refNum_any z w
theorem refLess_is (x y : Int) (b : Bool) (h : decide (sm x < sm y) = b) (w : World) :
    Calls Try.prog 22 #[.agg #[.int .u32 (dg (x) 0), .int .u32 (dg (x) 1), .int .u32 (dg (x) 2), .int .u32 (dg (x) 3), .int .u32 (dg (x) 4), .int .u32 (dg (x) 5), .int .u32 (dg (x) 6), .int .u32 (dg (x) 7)], .agg #[.int .u32 (dg (y) 0), .int .u32 (dg (y) 1), .int .u32 (dg (y) 2), .int .u32 (dg (y) 3), .int .u32 (dg (y) 4), .int .u32 (dg (y) 5), .int .u32 (dg (y) 6), .int .u32 (dg (y) 7)]] w fun e w' => e = .returned (.bool b) ∧ Below w.heap.size w w' := by subst h; exact refLess_any x y w

/-! The long division, a bit a round. -/
theorem quo_no (a n : Int) (_h0 : 0 ≤ a) (hn : 1 ≤ n) (h : a / 2 % n + a / 2 % n + a % 2 < n) : a / 2 / n + a / 2 / n = a / n ∧ a / 2 % n + a / 2 % n + a % 2 = a % n := by
  have h1 := Int.mul_ediv_add_emod (a / 2) n
  have h2 := Int.emod_nonneg (a / 2) (by omega : n ≠ 0)
  generalize a / 2 / n = q at *
  generalize a / 2 % n = r at *
  have h3 : a = r + r + a % 2 + n * (q + q) := by rw [Int.mul_add]; omega
  have h4 : a / n = q + q := by
    rw [h3, Int.add_mul_ediv_left _ _ (by omega), Int.ediv_eq_zero_of_lt (by omega) h]; omega
  have h5 : a % n = r + r + a % 2 := by
    conv => lhs; rw [h3]
    rw [Int.add_mul_emod_self_left, Int.emod_eq_of_lt (by omega) h]
  exact ⟨h4.symm, h5.symm⟩
theorem quo_yes (a n : Int) (_h0 : 0 ≤ a) (hn : 1 ≤ n) (h : ¬ a / 2 % n + a / 2 % n + a % 2 < n) : a / 2 / n + a / 2 / n + 1 = a / n ∧ a / 2 % n + a / 2 % n + a % 2 + -n = a % n := by
  have h1 := Int.mul_ediv_add_emod (a / 2) n
  have h2 := Int.emod_nonneg (a / 2) (by omega : n ≠ 0)
  have h2' := Int.emod_lt_of_pos (a / 2) (by omega : 0 < n)
  generalize a / 2 / n = q at *
  generalize a / 2 % n = r at *
  have h3 : a = (r + r + a % 2 + -n) + n * (q + q + 1) := by rw [Int.mul_add, Int.mul_add, Int.mul_one]; omega
  have h4 : a / n = q + q + 1 := by
    rw [h3, Int.add_mul_ediv_left _ _ (by omega), Int.ediv_eq_zero_of_lt (by omega) (by omega)]; omega
  have h5 : a % n = r + r + a % 2 + -n := by
    conv => lhs; rw [h3]
    rw [Int.add_mul_emod_self_left, Int.emod_eq_of_lt (by omega) (by omega)]
  exact ⟨h4.symm, h5.symm⟩
theorem and1_u32 (a : Int) (h0 : 0 ≤ a) (h1 : a < 4294967296) : bits .and .u32 a 1 = a % 2 := by
  rw [u32_and a 1 h0 h1 (by decide) (by decide)]
  rw [show (1 : Int).toNat = 2 ^ 1 - 1 from rfl, Nat.and_two_pow_sub_one_eq_mod]
  omega
theorem part_bit (x : Int) (i : Nat) (h : i < 16) : x % 65536 / 2 ^ i % 2 = x / 2 ^ i % 2 := by
  rcases (by omega : i = 0 ∨ i = 1 ∨ i = 2 ∨ i = 3 ∨ i = 4 ∨ i = 5 ∨ i = 6 ∨ i = 7 ∨ i = 8 ∨ i = 9 ∨ i = 10 ∨ i = 11 ∨ i = 12 ∨ i = 13 ∨ i = 14 ∨ i = 15) with rfl | rfl | rfl | rfl | rfl | rfl | rfl | rfl | rfl | rfl | rfl | rfl | rfl | rfl | rfl | rfl <;> simp only [Int.reducePow] <;> omega
theorem num_bit (N : Int) (m : Nat) : bits .and .u32 (dg N (m / 16) / 2 ^ (m % 16)) 1 = N / 2 ^ m % 2 := by
  have hd := dg_bd N (m / 16)
  have hh := half_bd (dg N (m / 16)) (m % 16) hd.1
  rw [and1_u32 _ hh.1 (by omega)]
  unfold dg
  rw [part_bit _ _ (by omega)]
  have e : N / 2 ^ m = N / 65536 ^ (m / 16) / 2 ^ (m % 16) := by
    rw [Int.ediv_ediv_of_nonneg (Int.le_of_lt (pw_pos _)), ← pow16, ← Int.pow_add, Nat.div_add_mod]
  rw [e]

structure QInv (w0 w : World) (B G D : Nat) (N q r n : Int) : Prop where
  b : BBox w B N
  q : BBox w G q
  r : BBox w (G + 1) r
  d : BBox w D n
  hB : w0.heap.size ≤ B
  hG : B < G
  hD : G + 1 < D
  fr : Below w0.heap.size w0 w
theorem QInv.on {w0 w w' : World} {B G D : Nat} {N q r n : Int} (h : QInv w0 w B G D N q r n) (hb : Below w.heap.size w w') : QInv w0 w' B G D N q r n :=
  ⟨bbox_on h.b hb, bbox_on h.q hb, bbox_on h.r hb, bbox_on h.d hb, h.hB, h.hG, h.hD, h.fr.trans (hb.mono h.fr.size)⟩
theorem QInv.drew {w0 w : World} {B G D : Nat} {N q r n : Int} (h : QInv w0 w B G D N q r n) : QInv w0 w.drew B G D N q r n := ⟨h.b, h.q, h.r, h.d, h.hB, h.hG, h.hD, h.fr.drew⟩
theorem QInv.setR {w0 w : World} {B G D : Nat} {N q r n : Int} (h : QInv w0 w B G D N q r n) (y : Int) : QInv w0 (set8 w (G + 1) y) B G D N q y n :=
  ⟨bbox_far8 h.b (by have := h.hG; omega) y, bbox_far8 h.q (by omega) y, bbox_set8 h.r y, bbox_far8 h.d (by have := h.hD; omega) y, h.hB, h.hG, h.hD, below_set h.fr (by have := h.hG; have := h.hB; omega) y⟩
theorem QInv.setQ {w0 w : World} {B G D : Nat} {N q r n : Int} (h : QInv w0 w B G D N q r n) (y : Int) : QInv w0 (set8 w G y) B G D N y r n :=
  ⟨bbox_far8 h.b (by have := h.hG; omega) y, bbox_set8 h.q y, bbox_far8 h.r (by omega) y, bbox_far8 h.d (by have := h.hD; omega) y, h.hB, h.hG, h.hD, below_set h.fr (by have := h.hG; have := h.hB; omega) y⟩
theorem QInv.toN {w0 w : World} {B G D : Nat} {N N' q r n : Int} (h : QInv w0 w B G D N q r n) (e : sm N = sm N') : QInv w0 w B G D N' q r n :=
  ⟨World.rowIs.congr h.b (fun i hi => by rw [dg_cong e i hi]), h.q, h.r, h.d, h.hB, h.hG, h.hD, h.fr⟩

/-- What the cells say that a round reads and writes. -/
theorem heldQ {G D : Nat} {q r n : Int} {w w' : World} (h : G + 1 < w.heap.size ∧ D < w.heap.size ∧ w.cell? ⟨G, 0, none⟩ = some (.int .u32 (dg (q) 0)) ∧ w.cell? ⟨G, 1, none⟩ = some (.int .u32 (dg (q) 1)) ∧ w.cell? ⟨G, 2, none⟩ = some (.int .u32 (dg (q) 2)) ∧ w.cell? ⟨G, 3, none⟩ = some (.int .u32 (dg (q) 3)) ∧ w.cell? ⟨G, 4, none⟩ = some (.int .u32 (dg (q) 4)) ∧ w.cell? ⟨G, 5, none⟩ = some (.int .u32 (dg (q) 5)) ∧ w.cell? ⟨G, 6, none⟩ = some (.int .u32 (dg (q) 6)) ∧ w.cell? ⟨G, 7, none⟩ = some (.int .u32 (dg (q) 7)) ∧ w.cell? ⟨G + 1, 0, none⟩ = some (.int .u32 (dg (r) 0)) ∧ w.cell? ⟨G + 1, 1, none⟩ = some (.int .u32 (dg (r) 1)) ∧ w.cell? ⟨G + 1, 2, none⟩ = some (.int .u32 (dg (r) 2)) ∧ w.cell? ⟨G + 1, 3, none⟩ = some (.int .u32 (dg (r) 3)) ∧ w.cell? ⟨G + 1, 4, none⟩ = some (.int .u32 (dg (r) 4)) ∧ w.cell? ⟨G + 1, 5, none⟩ = some (.int .u32 (dg (r) 5)) ∧ w.cell? ⟨G + 1, 6, none⟩ = some (.int .u32 (dg (r) 6)) ∧ w.cell? ⟨G + 1, 7, none⟩ = some (.int .u32 (dg (r) 7)) ∧ w.cell? ⟨D, 0, none⟩ = some (.int .u32 (dg (n) 0)) ∧ w.cell? ⟨D, 1, none⟩ = some (.int .u32 (dg (n) 1)) ∧ w.cell? ⟨D, 2, none⟩ = some (.int .u32 (dg (n) 2)) ∧ w.cell? ⟨D, 3, none⟩ = some (.int .u32 (dg (n) 3)) ∧ w.cell? ⟨D, 4, none⟩ = some (.int .u32 (dg (n) 4)) ∧ w.cell? ⟨D, 5, none⟩ = some (.int .u32 (dg (n) 5)) ∧ w.cell? ⟨D, 6, none⟩ = some (.int .u32 (dg (n) 6)) ∧ w.cell? ⟨D, 7, none⟩ = some (.int .u32 (dg (n) 7)) ∧ (∀ o, w.frozen? ⟨G, o, none⟩ = false) ∧ (∀ o, w.frozen? ⟨G + 1, o, none⟩ = false)) (hb : Below w.heap.size w w') :
    G + 1 < w'.heap.size ∧ D < w'.heap.size ∧ w'.cell? ⟨G, 0, none⟩ = some (.int .u32 (dg (q) 0)) ∧ w'.cell? ⟨G, 1, none⟩ = some (.int .u32 (dg (q) 1)) ∧ w'.cell? ⟨G, 2, none⟩ = some (.int .u32 (dg (q) 2)) ∧ w'.cell? ⟨G, 3, none⟩ = some (.int .u32 (dg (q) 3)) ∧ w'.cell? ⟨G, 4, none⟩ = some (.int .u32 (dg (q) 4)) ∧ w'.cell? ⟨G, 5, none⟩ = some (.int .u32 (dg (q) 5)) ∧ w'.cell? ⟨G, 6, none⟩ = some (.int .u32 (dg (q) 6)) ∧ w'.cell? ⟨G, 7, none⟩ = some (.int .u32 (dg (q) 7)) ∧ w'.cell? ⟨G + 1, 0, none⟩ = some (.int .u32 (dg (r) 0)) ∧ w'.cell? ⟨G + 1, 1, none⟩ = some (.int .u32 (dg (r) 1)) ∧ w'.cell? ⟨G + 1, 2, none⟩ = some (.int .u32 (dg (r) 2)) ∧ w'.cell? ⟨G + 1, 3, none⟩ = some (.int .u32 (dg (r) 3)) ∧ w'.cell? ⟨G + 1, 4, none⟩ = some (.int .u32 (dg (r) 4)) ∧ w'.cell? ⟨G + 1, 5, none⟩ = some (.int .u32 (dg (r) 5)) ∧ w'.cell? ⟨G + 1, 6, none⟩ = some (.int .u32 (dg (r) 6)) ∧ w'.cell? ⟨G + 1, 7, none⟩ = some (.int .u32 (dg (r) 7)) ∧ w'.cell? ⟨D, 0, none⟩ = some (.int .u32 (dg (n) 0)) ∧ w'.cell? ⟨D, 1, none⟩ = some (.int .u32 (dg (n) 1)) ∧ w'.cell? ⟨D, 2, none⟩ = some (.int .u32 (dg (n) 2)) ∧ w'.cell? ⟨D, 3, none⟩ = some (.int .u32 (dg (n) 3)) ∧ w'.cell? ⟨D, 4, none⟩ = some (.int .u32 (dg (n) 4)) ∧ w'.cell? ⟨D, 5, none⟩ = some (.int .u32 (dg (n) 5)) ∧ w'.cell? ⟨D, 6, none⟩ = some (.int .u32 (dg (n) 6)) ∧ w'.cell? ⟨D, 7, none⟩ = some (.int .u32 (dg (n) 7)) ∧ (∀ o, w'.frozen? ⟨G, o, none⟩ = false) ∧ (∀ o, w'.frozen? ⟨G + 1, o, none⟩ = false) := by
  obtain ⟨h0, h1, a0, a1, a2, a3, a4, a5, a6, a7, c0, c1, c2, c3, c4, c5, c6, c7, d0, d1, d2, d3, d4, d5, d6, d7, f0, f1⟩ := h
  obtain ⟨hc, hf⟩ := bcell hb
  have hs := hb.size
  have hg : G < w.heap.size := by omega
  exact ⟨by omega, by omega, (hc _ _ hg).trans a0, (hc _ _ hg).trans a1, (hc _ _ hg).trans a2, (hc _ _ hg).trans a3, (hc _ _ hg).trans a4, (hc _ _ hg).trans a5, (hc _ _ hg).trans a6, (hc _ _ hg).trans a7,
    (hc _ _ h0).trans c0, (hc _ _ h0).trans c1, (hc _ _ h0).trans c2, (hc _ _ h0).trans c3, (hc _ _ h0).trans c4, (hc _ _ h0).trans c5, (hc _ _ h0).trans c6, (hc _ _ h0).trans c7,
    (hc _ _ h1).trans d0, (hc _ _ h1).trans d1, (hc _ _ h1).trans d2, (hc _ _ h1).trans d3, (hc _ _ h1).trans d4, (hc _ _ h1).trans d5, (hc _ _ h1).trans d6, (hc _ _ h1).trans d7,
    fun o => (hf _ _ hg).trans (f0 o), fun o => (hf _ _ h0).trans (f1 o)⟩
theorem QInv.lt {w0 w : World} {B G D : Nat} {N q r n : Int} (h : QInv w0 w B G D N q r n) : G + 1 < w.heap.size ∧ D < w.heap.size := ⟨World.rowIs.lt h.r, World.rowIs.lt h.d⟩

theorem quo_ab_pos (z : Int) (h : decide (sm z < 0) = false) : sm z = sm (ab z) := by
  have h1 : ¬ sm z < 0 := by simpa using h
  have hb := sm_bd z
  unfold ab; rw [if_neg h1]; exact (sm_small (z := sm z) (by omega) (by omega)).symm
theorem quo_ab_neg (z : Int) (h : decide (sm z < 0) = true) : sm (-z) = sm (ab z) := by
  have h1 : sm z < 0 := by simpa using h
  unfold ab; rw [if_pos h1]; unfold sm; omega
theorem quo_top (N : Int) (h0 : 0 ≤ N) (h1 : N ≤ 170141183460469231731687303715884105728) : N / 2 ^ 128 = 0 := by simp only [Int.reducePow]; omega
theorem quo_bd (N n : Int) (m : Nat) (_h0 : 0 ≤ N) (hn : 1 ≤ n) (_h1 : n ≤ 9223372036854775807) : 0 ≤ N / 2 ^ (m + 1) % n ∧ N / 2 ^ (m + 1) % n < n :=
  ⟨Int.emod_nonneg _ (by omega), Int.emod_lt_of_pos _ (by omega)⟩
/-- What a round comes to: the bit is 0, the bit is 1; the rest is below n, or it is not. -/
theorem quo_step (N n : Int) (m : Nat) (h0 : 0 ≤ N) (hn : 1 ≤ n) :
    (N / 2 ^ m % 2 = 0 → ((N / 2 ^ (m + 1) % n + N / 2 ^ (m + 1) % n < n → N / 2 ^ (m + 1) / n + N / 2 ^ (m + 1) / n = N / 2 ^ m / n ∧ N / 2 ^ (m + 1) % n + N / 2 ^ (m + 1) % n = N / 2 ^ m % n) ∧
      (¬ N / 2 ^ (m + 1) % n + N / 2 ^ (m + 1) % n < n → N / 2 ^ (m + 1) / n + N / 2 ^ (m + 1) / n + 1 = N / 2 ^ m / n ∧ N / 2 ^ (m + 1) % n + N / 2 ^ (m + 1) % n + -n = N / 2 ^ m % n))) ∧
    (N / 2 ^ m % 2 = 1 → ((N / 2 ^ (m + 1) % n + N / 2 ^ (m + 1) % n + 1 < n → N / 2 ^ (m + 1) / n + N / 2 ^ (m + 1) / n = N / 2 ^ m / n ∧ N / 2 ^ (m + 1) % n + N / 2 ^ (m + 1) % n + 1 = N / 2 ^ m % n) ∧
      (¬ N / 2 ^ (m + 1) % n + N / 2 ^ (m + 1) % n + 1 < n → N / 2 ^ (m + 1) / n + N / 2 ^ (m + 1) / n + 1 = N / 2 ^ m / n ∧ N / 2 ^ (m + 1) % n + N / 2 ^ (m + 1) % n + 1 + -n = N / 2 ^ m % n))) := by
  have ha := (half_bd N m h0).1
  rw [half_step]
  generalize N / 2 ^ m = a at *
  refine ⟨fun h => ⟨fun g => ?_, fun g => ?_⟩, fun h => ⟨fun g => ?_, fun g => ?_⟩⟩
  · have := quo_no a n ha hn (by rw [h]; omega)
    rw [h, Int.add_zero] at this; exact this
  · have := quo_yes a n ha hn (by rw [h]; omega)
    rw [h, Int.add_zero] at this; exact this
  · have := quo_no a n ha hn (by rw [h]; omega)
    rw [h] at this; exact this
  · have := quo_yes a n ha hn (by rw [h]; omega)
    rw [h] at this; exact this
theorem quo_lt {r n : Int} (h : decide (sm r < sm n) = true) (h0 : 0 ≤ r) (h1 : r ≤ 18446744073709551616) (h2 : 1 ≤ n) (h3 : n ≤ 9223372036854775807) : r < n := by
  have h' := of_decide_eq_true h
  rw [sm_small (z := r) (by omega) (by omega), sm_small (z := n) (by omega) (by omega)] at h'; exact h'
theorem quo_ge {r n : Int} (h : decide (sm r < sm n) = false) (h0 : 0 ≤ r) (h1 : r ≤ 18446744073709551616) (h2 : 1 ≤ n) (h3 : n ≤ 9223372036854775807) : ¬ r < n := by
  have h' := of_decide_eq_false h
  rw [sm_small (z := r) (by omega) (by omega), sm_small (z := n) (by omega) (by omega)] at h'; exact h'
theorem quo_posV (z n : Int) (hn : 1 ≤ n) (h : decide (sm z < 0) = false) : numV (ab z / n) = quoV z n ∧ numB (ab z / n) = quoB z n := by
  have h1 : ¬ sm z < 0 := by simpa using h
  have e : quoZ z n = ab z / n := by unfold quoZ; rw [if_neg h1]
  unfold quoV quoB; rw [if_neg (by omega), if_neg (by omega), e]; exact ⟨rfl, rfl⟩
theorem quo_negV (z n : Int) (hn : 1 ≤ n) (h : decide (sm z < 0) = true) : numV (-(ab z / n)) = quoV z n ∧ numB (-(ab z / n)) = quoB z n := by
  have h1 : sm z < 0 := by simpa using h
  have e : quoZ z n = -(ab z / n) := by unfold quoZ; rw [if_pos h1]
  unfold quoV quoB; rw [if_neg (by omega), if_neg (by omega), e]; exact ⟨rfl, rfl⟩

set_option maxRecDepth 10000 in
set_option maxHeartbeats 4000000 in
theorem refQuo_pos (z n : Int) (w : World) (hn : 1 ≤ n) (h1 : n ≤ 9223372036854775807) (hm : decide (sm z < 0) = false) :
    Calls Try.prog 21 #[.agg (bigC z), .int .i64 n] w fun e w' => e = .returned (.tuple #[.int .i64 (quoV z n), .bool (quoB z n)]) ∧ Below w.heap.size w w' := by
  have b0 := Lib.hid (bbox_new w z)
  have HB0 := Lib.hid (below_alloc1 w (.cells (bigC z) 30))
  have HM := Lib.hid hm
  have hd1 : decide (n < 1) = false := decide_eq_false (by omega)
  clear hm
  go_enter Try.func21, Try.ntmps21
  go_wp2_with fail
  refine (refMinus_is z false HM.out _).mono ?_
  rintro e w1 ⟨rfl, hb⟩
  have B1 := Lib.hid (bbox_on b0.out hb)
  have HB1 := Lib.hid (HB0.out.trans (hb.mono HB0.out.size))
  clear hb b0 HB0
  go_wp2_with fail
  obtain ⟨wo, hwo⟩ : ∃ wo : World, wo = w1 := ⟨_, rfl⟩
  subst hwo
  have BN := Lib.hid (World.rowIs.congr B1.out (fun i hi => by rw [dg_cong (quo_ab_pos z HM.out) i hi]) : BBox wo w.heap.size (ab z))
  have HO := HB1
  clear B1 HB1
  have q0 := row8_new wo 0
  have r0 := row8_new (wo.alloc (.cells #[.int .u32 0, .int .u32 0, .int .u32 0, .int .u32 0, .int .u32 0, .int .u32 0, .int .u32 0, .int .u32 0] 30)) 0
  simp only [World.size_alloc] at r0
  have Q0 := Lib.hid (row8_zero (World.rowIs.alloc q0 (.cells #[.int .u32 0, .int .u32 0, .int .u32 0, .int .u32 0, .int .u32 0, .int .u32 0, .int .u32 0, .int .u32 0] 30)))
  have R0 := Lib.hid (row8_zero r0)
  have BN2 := Lib.hid (World.rowIs.alloc (World.rowIs.alloc BN.out (.cells #[.int .u32 0, .int .u32 0, .int .u32 0, .int .u32 0, .int .u32 0, .int .u32 0, .int .u32 0, .int .u32 0] 30)) (.cells #[.int .u32 0, .int .u32 0, .int .u32 0, .int .u32 0, .int .u32 0, .int .u32 0, .int .u32 0, .int .u32 0] 30))
  have HO2 := Lib.hid ((HO.out.alloc HO.out.size (.cells #[.int .u32 0, .int .u32 0, .int .u32 0, .int .u32 0, .int .u32 0, .int .u32 0, .int .u32 0, .int .u32 0] 30)).alloc (by simp; have := HO.out.size; omega) (.cells #[.int .u32 0, .int .u32 0, .int .u32 0, .int .u32 0, .int .u32 0, .int .u32 0, .int .u32 0, .int .u32 0] 30))
  have hlt := World.rowIs.lt BN.out
  clear q0 r0
  refine (refOf_ex n _ (by omega) h1).mono ?_
  rintro e w3 ⟨rfl, hb⟩
  have hsz : wo.heap.size + 1 < w3.heap.size := by have := hb.size; simp at this; omega
  have I0 : Hid (QInv w (w3.alloc (.cells (bigC n) 30)) w.heap.size wo.heap.size w3.heap.size (ab z) 0 0 n) := Lib.hid
    ⟨World.rowIs.alloc (bbox_on BN2.out hb) _, World.rowIs.alloc (bbox_on Q0.out hb) _, World.rowIs.alloc (bbox_on R0.out hb) _, bbox_new w3 n, Nat.le_refl _, hlt, hsz, (HO2.out.trans (hb.mono HO2.out.size)).alloc (HO2.out.trans (hb.mono HO2.out.size)).size _⟩
  clear hb BN HO Q0 R0 BN2 HO2 hsz hlt
  have hN := ab_bd z
  obtain ⟨hN0, hN1⟩ := hN
  generalize hN : ab z = N at *
  have HN := Lib.hid hN
  clear hN
  go_wp2
  generalize wo.heap.size = G at *
  generalize w3.heap.size = D at *
  generalize hB : w.heap.size = B at I0
  have HBB := Lib.hid hB
  clear hB
  go_loopw [10] (fun i wr => ∃ k : Int, -1 ≤ k ∧ k ≤ 127 ∧ i = .int .i64 k ∧ Hid (QInv w wr B G D N (N / 2 ^ (k + 1).toNat / n) (N / 2 ^ (k + 1).toNat % n) n)) (fun i _ => (intOf i + 1).toNat)
  case atStart =>
    refine ⟨127, by omega, by omega, rfl, ?_⟩
    rw [show ((127 : Int) + 1).toNat = 128 from rfl, show N / 2 ^ 128 = 0 from quo_top N hN0 hN1, Int.zero_ediv, Int.zero_emod]
    exact I0
  case round =>
    obtain ⟨k, hk0, hk1, rfl, I⟩ := hrel
    clear I0
    by_cases hk : 0 ≤ k
    · obtain ⟨m, rfl⟩ := Int.eq_ofNat_of_zero_le hk
      rw [show ((m : Int) + 1).toNat = m + 1 from by omega] at I
      have hmm : m < 128 := by omega
      have ST := Lib.hid (quo_step N n m hN0 hn)
      have BD := Lib.hid (quo_bd N n m hN0 hn h1)
      generalize N / 2 ^ (m + 1) / n = q at *
      generalize N / 2 ^ (m + 1) % n = r at *
      have hm0 : (0 : Int) ≤ (m : Int) := by omega
      go_wp2_with fail
      refine wp_region_par 6 [.agg #[.int .u32 (dg (r) 0), .int .u32 (dg (r) 1), .int .u32 (dg (r) 2), .int .u32 (dg (r) 3), .int .u32 (dg (r) 4), .int .u32 (dg (r) 5), .int .u32 (dg (r) 6), .int .u32 (dg (r) 7)], .agg #[.int .u32 (dg (r) 0), .int .u32 (dg (r) 1), .int .u32 (dg (r) 2), .int .u32 (dg (r) 3), .int .u32 (dg (r) 4), .int .u32 (dg (r) 5), .int .u32 (dg (r) 6), .int .u32 (dg (r) 7)], .agg #[.int .u32 (dg (r + r) 0), .int .u32 (dg (r + r) 1), .int .u32 (dg (r + r) 2), .int .u32 (dg (r + r) 3), .int .u32 (dg (r + r) 4), .int .u32 (dg (r + r) 5), .int .u32 (dg (r + r) 6), .int .u32 (dg (r + r) 7)], .agg #[.int .u32 (dg (q) 0), .int .u32 (dg (q) 1), .int .u32 (dg (q) 2), .int .u32 (dg (q) 3), .int .u32 (dg (q) 4), .int .u32 (dg (q) 5), .int .u32 (dg (q) 6), .int .u32 (dg (q) 7)], .agg #[.int .u32 (dg (q) 0), .int .u32 (dg (q) 1), .int .u32 (dg (q) 2), .int .u32 (dg (q) 3), .int .u32 (dg (q) 4), .int .u32 (dg (q) 5), .int .u32 (dg (q) 6), .int .u32 (dg (q) 7)], .agg #[.int .u32 (dg (q + q) 0), .int .u32 (dg (q + q) 1), .int .u32 (dg (q + q) 2), .int .u32 (dg (q + q) 3), .int .u32 (dg (q + q) 4), .int .u32 (dg (q + q) 5), .int .u32 (dg (q + q) 6), .int .u32 (dg (q + q) 7)]] (fun w' => QInv w w' B G D N (q) (r) n) ?A1 ?hm1 ?hB1 ?hA1 I.out.drew ?hop1 ?hT1
      case hm1 => kernel_rfl
      case hB1 => kernel_rfl
      case hA1 =>
        simp only [putA, dstAt, Act.put, List.getElem?_toArray, List.getElem?_cons_zero, List.getElem?_cons_succ, Option.bind_some, List.setIfInBounds_toArray, List.set_cons_zero, List.set_cons_succ, List.getD_cons_zero, List.getD_cons_succ]
        rfl
      case hop1 =>
        simp only [List.take_succ_cons, List.take_zero, GiveAll, and_true]
        refine ⟨fun w' hR => ?_, fun w' hR => ?_, fun w' hR => ?_, fun w' hR => ?_, fun w' hR => ?_, fun w' hR => ?_⟩
        · have HR := Lib.hid hR
          obtain ⟨a0, a1, a2, a3, a4, a5, a6, a7⟩ := bbox_cells hR.r
          clear hR
          simp only [Gives]
          go_simp
          exact HR.out
        · have HR := Lib.hid hR
          obtain ⟨a0, a1, a2, a3, a4, a5, a6, a7⟩ := bbox_cells hR.r
          clear hR
          simp only [Gives]
          go_simp
          exact HR.out
        · have HR := Lib.hid hR
          clear hR
          simp only [Gives]
          go_simp
          exact (refAdd_ex r r w').mono (fun e w'' ⟨he, hb⟩ => ⟨he, HR.out.on hb⟩)
        · have HR := Lib.hid hR
          obtain ⟨a0, a1, a2, a3, a4, a5, a6, a7⟩ := bbox_cells hR.q
          clear hR
          simp only [Gives]
          go_simp
          exact HR.out
        · have HR := Lib.hid hR
          obtain ⟨a0, a1, a2, a3, a4, a5, a6, a7⟩ := bbox_cells hR.q
          clear hR
          simp only [Gives]
          go_simp
          exact HR.out
        · have HR := Lib.hid hR
          clear hR
          simp only [Gives]
          go_simp
          exact (refAdd_ex q q w').mono (fun e w'' ⟨he, hb⟩ => ⟨he, HR.out.on hb⟩)
      case hT1 =>
        intro w' hR
        simp only [List.drop_succ_cons, List.drop_zero]
        clear I
        obtain ⟨a0, a1, a2, a3, a4, a5, a6, a7⟩ := bbox_cells hR.q
        obtain ⟨c0, c1, c2, c3, c4, c5, c6, c7⟩ := bbox_cells hR.r
        obtain ⟨f0, f1, f2, f3, f4, f5, f6, f7⟩ := bbox_free hR.q
        obtain ⟨g0, g1, g2, g3, g4, g5, g6, g7⟩ := bbox_free hR.r
        have I := Lib.hid hR
        clear hR
        go_upto_region 12 with fail
        rw [set8_eq w' (G + 1) (r + r), set8_eq (set8 w' (G + 1) (r + r)) G (q + q)]
        have I2 := Lib.hid ((I.out.setR (r + r)).setQ (q + q))
        clear I
        have I := I2
        clear I2 a0 a1 a2 a3 a4 a5 a6 a7 c0 c1 c2 c3 c4 c5 c6 c7 f0 f1 f2 f3 f4 f5 f6 f7 g0 g1 g2 g3 g4 g5 g6 g7
        generalize set8 (set8 w' (G + 1) (r + r)) G (q + q) = wo at *
        have hb0 := World.rowIs.cell I.out.b (i := m / 16) (by omega)
        have hdg0 := (dg_bd N (m / 16)).1
        have hdg1 := (dg_bd N (m / 16)).2
        have hbit := num_bit N m
        rcases (by omega : N / 2 ^ m % 2 = 0 ∨ N / 2 ^ m % 2 = 1) with hp | hp
        · have ht : (bits .and .u32 (dg N (m / 16) / 2 ^ (m % 16)) 1 == 1) = false := by rw [hbit, hp]; rfl
          have ST2 := Lib.hid (ST.out.1 hp)
          clear hbit hp
          cases hl : decide (sm (r + r) < sm n)
          · have SS := Lib.hid (ST2.out.2 (by have h5 := quo_ge hl (by have := BD.out; omega) (by have := BD.out; omega) hn h1; omega))
            have HL := Lib.hid hl
            clear hl
            obtain ⟨c0, c1, c2, c3, c4, c5, c6, c7⟩ := bbox_cells I.out.r
            obtain ⟨d0, d1, d2, d3, d4, d5, d6, d7⟩ := bbox_cells I.out.d
            go_wp2_with fail
            refine (refLess_is (r + r) n false HL.out _).mono ?_
            rintro e wl ⟨rfl, hbl⟩
            have IL := Lib.hid (I.out.on hbl)
            clear hbl c0 c1 c2 c3 c4 c5 c6 c7 d0 d1 d2 d3 d4 d5 d6 d7 I
            go_wp2_with fail
            refine wp_region_par 7 [.agg #[.int .u32 (dg (r + r) 0), .int .u32 (dg (r + r) 1), .int .u32 (dg (r + r) 2), .int .u32 (dg (r + r) 3), .int .u32 (dg (r + r) 4), .int .u32 (dg (r + r) 5), .int .u32 (dg (r + r) 6), .int .u32 (dg (r + r) 7)], .agg #[.int .u32 (dg (n) 0), .int .u32 (dg (n) 1), .int .u32 (dg (n) 2), .int .u32 (dg (n) 3), .int .u32 (dg (n) 4), .int .u32 (dg (n) 5), .int .u32 (dg (n) 6), .int .u32 (dg (n) 7)], .agg #[.int .u32 (dg (-n) 0), .int .u32 (dg (-n) 1), .int .u32 (dg (-n) 2), .int .u32 (dg (-n) 3), .int .u32 (dg (-n) 4), .int .u32 (dg (-n) 5), .int .u32 (dg (-n) 6), .int .u32 (dg (-n) 7)], .agg #[.int .u32 (dg (r + r + -n) 0), .int .u32 (dg (r + r + -n) 1), .int .u32 (dg (r + r + -n) 2), .int .u32 (dg (r + r + -n) 3), .int .u32 (dg (r + r + -n) 4), .int .u32 (dg (r + r + -n) 5), .int .u32 (dg (r + r + -n) 6), .int .u32 (dg (r + r + -n) 7)], .agg #[.int .u32 (dg (q + q) 0), .int .u32 (dg (q + q) 1), .int .u32 (dg (q + q) 2), .int .u32 (dg (q + q) 3), .int .u32 (dg (q + q) 4), .int .u32 (dg (q + q) 5), .int .u32 (dg (q + q) 6), .int .u32 (dg (q + q) 7)], .agg #[.int .u32 (dg (1) 0), .int .u32 (dg (1) 1), .int .u32 (dg (1) 2), .int .u32 (dg (1) 3), .int .u32 (dg (1) 4), .int .u32 (dg (1) 5), .int .u32 (dg (1) 6), .int .u32 (dg (1) 7)], .agg #[.int .u32 (dg (q + q + 1) 0), .int .u32 (dg (q + q + 1) 1), .int .u32 (dg (q + q + 1) 2), .int .u32 (dg (q + q + 1) 3), .int .u32 (dg (q + q + 1) 4), .int .u32 (dg (q + q + 1) 5), .int .u32 (dg (q + q + 1) 6), .int .u32 (dg (q + q + 1) 7)]] (fun w' => QInv w w' B G D N (q + q) (r + r) n) ?A2 ?hm2 ?hB2 ?hA2 IL.out.drew ?hop2 ?hT2
            case hm2 => kernel_rfl
            case hB2 => kernel_rfl
            case hA2 =>
              simp only [putA, dstAt, Act.put, List.getElem?_toArray, List.getElem?_cons_zero, List.getElem?_cons_succ, Option.bind_some, List.setIfInBounds_toArray, List.set_cons_zero, List.set_cons_succ, List.getD_cons_zero, List.getD_cons_succ]
              rfl
            case hop2 =>
              simp only [List.take_succ_cons, List.take_zero, GiveAll, and_true]
              refine ⟨fun w' hR => ?_, fun w' hR => ?_, fun w' hR => ?_, fun w' hR => ?_, fun w' hR => ?_, fun w' hR => ?_, fun w' hR => ?_⟩
              · have HR := Lib.hid hR
                obtain ⟨a0, a1, a2, a3, a4, a5, a6, a7⟩ := bbox_cells hR.r
                clear hR
                simp only [Gives]
                go_simp
                exact HR.out
              · have HR := Lib.hid hR
                obtain ⟨a0, a1, a2, a3, a4, a5, a6, a7⟩ := bbox_cells hR.d
                clear hR
                simp only [Gives]
                go_simp
                exact HR.out
              · have HR := Lib.hid hR
                clear hR
                simp only [Gives]
                go_simp
                exact (refNeg_ex n w').mono (fun e w'' ⟨he, hb⟩ => ⟨he, HR.out.on hb⟩)
              · have HR := Lib.hid hR
                clear hR
                simp only [Gives]
                go_simp
                exact (refAdd_ex (r + r) (-n) w').mono (fun e w'' ⟨he, hb⟩ => ⟨he, HR.out.on hb⟩)
              · have HR := Lib.hid hR
                obtain ⟨a0, a1, a2, a3, a4, a5, a6, a7⟩ := bbox_cells hR.q
                clear hR
                simp only [Gives]
                go_simp
                exact HR.out
              · have HR := Lib.hid hR
                clear hR
                simp only [Gives]
                go_simp
                exact (refOf_ex 1 w' (by decide) (by decide)).mono (fun e w'' ⟨he, hb⟩ => ⟨he, HR.out.on hb⟩)
              · have HR := Lib.hid hR
                clear hR
                simp only [Gives]
                go_simp
                exact (refAdd_ex (q + q) 1 w').mono (fun e w'' ⟨he, hb⟩ => ⟨he, HR.out.on hb⟩)
            case hT2 =>
              intro w' hR
              simp only [List.drop_succ_cons, List.drop_zero]
              obtain ⟨a0, a1, a2, a3, a4, a5, a6, a7⟩ := bbox_cells hR.q
              obtain ⟨c0, c1, c2, c3, c4, c5, c6, c7⟩ := bbox_cells hR.r
              obtain ⟨f0, f1, f2, f3, f4, f5, f6, f7⟩ := bbox_free hR.q
              obtain ⟨g0, g1, g2, g3, g4, g5, g6, g7⟩ := bbox_free hR.r
              have I := Lib.hid hR
              clear hR
              go_wp2
              refine ⟨⟨(m : Int) - 1, by omega, by omega, rfl, ?_⟩, by simp [intOf]⟩
              rw [show ((m : Int) - 1 + 1).toNat = m from by omega, ← SS.out.1, ← SS.out.2]
              exact Lib.hid ((I.out.setR (r + r + -n)).setQ (q + q + 1))
          · have SS := Lib.hid (ST2.out.1 (quo_lt hl (by have := BD.out; omega) (by have := BD.out; omega) hn h1))
            have HL := Lib.hid hl
            clear hl
            obtain ⟨c0, c1, c2, c3, c4, c5, c6, c7⟩ := bbox_cells I.out.r
            obtain ⟨d0, d1, d2, d3, d4, d5, d6, d7⟩ := bbox_cells I.out.d
            go_wp2_with fail
            refine (refLess_is (r + r) n true HL.out _).mono ?_
            rintro e wl ⟨rfl, hbl⟩
            have IL := Lib.hid (I.out.on hbl)
            clear hbl c0 c1 c2 c3 c4 c5 c6 c7 d0 d1 d2 d3 d4 d5 d6 d7 I
            go_wp2
            refine ⟨⟨(m : Int) - 1, by omega, by omega, rfl, ?_⟩, by simp [intOf]⟩
            rw [show ((m : Int) - 1 + 1).toNat = m from by omega, ← SS.out.1, ← SS.out.2]
            exact IL
        · have ht : (bits .and .u32 (dg N (m / 16) / 2 ^ (m % 16)) 1 == 1) = true := by rw [hbit, hp]; rfl
          have ST2 := Lib.hid (ST.out.2 hp)
          clear hbit hp
          go_wp2_with fail
          refine wp_region_par 3 [.agg #[.int .u32 (dg (r + r) 0), .int .u32 (dg (r + r) 1), .int .u32 (dg (r + r) 2), .int .u32 (dg (r + r) 3), .int .u32 (dg (r + r) 4), .int .u32 (dg (r + r) 5), .int .u32 (dg (r + r) 6), .int .u32 (dg (r + r) 7)], .agg #[.int .u32 (dg (1) 0), .int .u32 (dg (1) 1), .int .u32 (dg (1) 2), .int .u32 (dg (1) 3), .int .u32 (dg (1) 4), .int .u32 (dg (1) 5), .int .u32 (dg (1) 6), .int .u32 (dg (1) 7)], .agg #[.int .u32 (dg (r + r + 1) 0), .int .u32 (dg (r + r + 1) 1), .int .u32 (dg (r + r + 1) 2), .int .u32 (dg (r + r + 1) 3), .int .u32 (dg (r + r + 1) 4), .int .u32 (dg (r + r + 1) 5), .int .u32 (dg (r + r + 1) 6), .int .u32 (dg (r + r + 1) 7)]] (fun w' => QInv w w' B G D N (q + q) (r + r) n) ?A4 ?hm4 ?hB4 ?hA4 I.out.drew ?hop4 ?hT4
          case hm4 => kernel_rfl
          case hB4 => kernel_rfl
          case hA4 =>
            simp only [putA, dstAt, Act.put, List.getElem?_toArray, List.getElem?_cons_zero, List.getElem?_cons_succ, Option.bind_some, List.setIfInBounds_toArray, List.set_cons_zero, List.set_cons_succ, List.getD_cons_zero, List.getD_cons_succ]
            rfl
          case hop4 =>
            simp only [List.take_succ_cons, List.take_zero, GiveAll, and_true]
            refine ⟨fun w' hR => ?_, fun w' hR => ?_, fun w' hR => ?_⟩
            · have HR := Lib.hid hR
              obtain ⟨a0, a1, a2, a3, a4, a5, a6, a7⟩ := bbox_cells hR.r
              clear hR
              simp only [Gives]
              go_simp
              exact HR.out
            · have HR := Lib.hid hR
              clear hR
              simp only [Gives]
              go_simp
              exact (refOf_ex 1 w' (by decide) (by decide)).mono (fun e w'' ⟨he, hb⟩ => ⟨he, HR.out.on hb⟩)
            · have HR := Lib.hid hR
              clear hR
              simp only [Gives]
              go_simp
              exact (refAdd_ex (r + r) 1 w').mono (fun e w'' ⟨he, hb⟩ => ⟨he, HR.out.on hb⟩)
          case hT4 =>
            intro w' hR
            simp only [List.drop_succ_cons, List.drop_zero]
            clear I
            obtain ⟨c0, c1, c2, c3, c4, c5, c6, c7⟩ := bbox_cells hR.r
            obtain ⟨g0, g1, g2, g3, g4, g5, g6, g7⟩ := bbox_free hR.r
            have I1 := Lib.hid hR
            clear hR
            go_upto_region 14 with fail
            rw [set8_eq w' (G + 1) (r + r + 1)]
            have I := Lib.hid (I1.out.setR (r + r + 1))
            clear I1 c0 c1 c2 c3 c4 c5 c6 c7 g0 g1 g2 g3 g4 g5 g6 g7
            generalize set8 w' (G + 1) (r + r + 1) = wp at *
            cases hl : decide (sm (r + r + 1) < sm n)
            · have SS := Lib.hid (ST2.out.2 (by have h5 := quo_ge hl (by have := BD.out; omega) (by have := BD.out; omega) hn h1; omega))
              have HL := Lib.hid hl
              clear hl
              obtain ⟨c0, c1, c2, c3, c4, c5, c6, c7⟩ := bbox_cells I.out.r
              obtain ⟨d0, d1, d2, d3, d4, d5, d6, d7⟩ := bbox_cells I.out.d
              go_wp2_with fail
              refine (refLess_is (r + r + 1) n false HL.out _).mono ?_
              rintro e wl ⟨rfl, hbl⟩
              have IL := Lib.hid (I.out.on hbl)
              clear hbl c0 c1 c2 c3 c4 c5 c6 c7 d0 d1 d2 d3 d4 d5 d6 d7 I
              go_wp2_with fail
              refine wp_region_par 7 [.agg #[.int .u32 (dg (r + r + 1) 0), .int .u32 (dg (r + r + 1) 1), .int .u32 (dg (r + r + 1) 2), .int .u32 (dg (r + r + 1) 3), .int .u32 (dg (r + r + 1) 4), .int .u32 (dg (r + r + 1) 5), .int .u32 (dg (r + r + 1) 6), .int .u32 (dg (r + r + 1) 7)], .agg #[.int .u32 (dg (n) 0), .int .u32 (dg (n) 1), .int .u32 (dg (n) 2), .int .u32 (dg (n) 3), .int .u32 (dg (n) 4), .int .u32 (dg (n) 5), .int .u32 (dg (n) 6), .int .u32 (dg (n) 7)], .agg #[.int .u32 (dg (-n) 0), .int .u32 (dg (-n) 1), .int .u32 (dg (-n) 2), .int .u32 (dg (-n) 3), .int .u32 (dg (-n) 4), .int .u32 (dg (-n) 5), .int .u32 (dg (-n) 6), .int .u32 (dg (-n) 7)], .agg #[.int .u32 (dg (r + r + 1 + -n) 0), .int .u32 (dg (r + r + 1 + -n) 1), .int .u32 (dg (r + r + 1 + -n) 2), .int .u32 (dg (r + r + 1 + -n) 3), .int .u32 (dg (r + r + 1 + -n) 4), .int .u32 (dg (r + r + 1 + -n) 5), .int .u32 (dg (r + r + 1 + -n) 6), .int .u32 (dg (r + r + 1 + -n) 7)], .agg #[.int .u32 (dg (q + q) 0), .int .u32 (dg (q + q) 1), .int .u32 (dg (q + q) 2), .int .u32 (dg (q + q) 3), .int .u32 (dg (q + q) 4), .int .u32 (dg (q + q) 5), .int .u32 (dg (q + q) 6), .int .u32 (dg (q + q) 7)], .agg #[.int .u32 (dg (1) 0), .int .u32 (dg (1) 1), .int .u32 (dg (1) 2), .int .u32 (dg (1) 3), .int .u32 (dg (1) 4), .int .u32 (dg (1) 5), .int .u32 (dg (1) 6), .int .u32 (dg (1) 7)], .agg #[.int .u32 (dg (q + q + 1) 0), .int .u32 (dg (q + q + 1) 1), .int .u32 (dg (q + q + 1) 2), .int .u32 (dg (q + q + 1) 3), .int .u32 (dg (q + q + 1) 4), .int .u32 (dg (q + q + 1) 5), .int .u32 (dg (q + q + 1) 6), .int .u32 (dg (q + q + 1) 7)]] (fun w' => QInv w w' B G D N (q + q) (r + r + 1) n) ?A3 ?hm3 ?hB3 ?hA3 IL.out.drew ?hop3 ?hT3
              case hm3 => kernel_rfl
              case hB3 => kernel_rfl
              case hA3 =>
                simp only [putA, dstAt, Act.put, List.getElem?_toArray, List.getElem?_cons_zero, List.getElem?_cons_succ, Option.bind_some, List.setIfInBounds_toArray, List.set_cons_zero, List.set_cons_succ, List.getD_cons_zero, List.getD_cons_succ]
                rfl
              case hop3 =>
                simp only [List.take_succ_cons, List.take_zero, GiveAll, and_true]
                refine ⟨fun w' hR => ?_, fun w' hR => ?_, fun w' hR => ?_, fun w' hR => ?_, fun w' hR => ?_, fun w' hR => ?_, fun w' hR => ?_⟩
                · have HR := Lib.hid hR
                  obtain ⟨a0, a1, a2, a3, a4, a5, a6, a7⟩ := bbox_cells hR.r
                  clear hR
                  simp only [Gives]
                  go_simp
                  exact HR.out
                · have HR := Lib.hid hR
                  obtain ⟨a0, a1, a2, a3, a4, a5, a6, a7⟩ := bbox_cells hR.d
                  clear hR
                  simp only [Gives]
                  go_simp
                  exact HR.out
                · have HR := Lib.hid hR
                  clear hR
                  simp only [Gives]
                  go_simp
                  exact (refNeg_ex n w').mono (fun e w'' ⟨he, hb⟩ => ⟨he, HR.out.on hb⟩)
                · have HR := Lib.hid hR
                  clear hR
                  simp only [Gives]
                  go_simp
                  exact (refAdd_ex (r + r + 1) (-n) w').mono (fun e w'' ⟨he, hb⟩ => ⟨he, HR.out.on hb⟩)
                · have HR := Lib.hid hR
                  obtain ⟨a0, a1, a2, a3, a4, a5, a6, a7⟩ := bbox_cells hR.q
                  clear hR
                  simp only [Gives]
                  go_simp
                  exact HR.out
                · have HR := Lib.hid hR
                  clear hR
                  simp only [Gives]
                  go_simp
                  exact (refOf_ex 1 w' (by decide) (by decide)).mono (fun e w'' ⟨he, hb⟩ => ⟨he, HR.out.on hb⟩)
                · have HR := Lib.hid hR
                  clear hR
                  simp only [Gives]
                  go_simp
                  exact (refAdd_ex (q + q) 1 w').mono (fun e w'' ⟨he, hb⟩ => ⟨he, HR.out.on hb⟩)
              case hT3 =>
                intro w' hR
                simp only [List.drop_succ_cons, List.drop_zero]
                obtain ⟨a0, a1, a2, a3, a4, a5, a6, a7⟩ := bbox_cells hR.q
                obtain ⟨c0, c1, c2, c3, c4, c5, c6, c7⟩ := bbox_cells hR.r
                obtain ⟨f0, f1, f2, f3, f4, f5, f6, f7⟩ := bbox_free hR.q
                obtain ⟨g0, g1, g2, g3, g4, g5, g6, g7⟩ := bbox_free hR.r
                have I := Lib.hid hR
                clear hR
                go_wp2
                refine ⟨⟨(m : Int) - 1, by omega, by omega, rfl, ?_⟩, by simp [intOf]⟩
                rw [show ((m : Int) - 1 + 1).toNat = m from by omega, ← SS.out.1, ← SS.out.2]
                exact Lib.hid ((I.out.setR (r + r + 1 + -n)).setQ (q + q + 1))
            · have SS := Lib.hid (ST2.out.1 (quo_lt hl (by have := BD.out; omega) (by have := BD.out; omega) hn h1))
              have HL := Lib.hid hl
              clear hl
              obtain ⟨c0, c1, c2, c3, c4, c5, c6, c7⟩ := bbox_cells I.out.r
              obtain ⟨d0, d1, d2, d3, d4, d5, d6, d7⟩ := bbox_cells I.out.d
              go_wp2_with fail
              refine (refLess_is (r + r + 1) n true HL.out _).mono ?_
              rintro e wl ⟨rfl, hbl⟩
              have IL := Lib.hid (I.out.on hbl)
              clear hbl c0 c1 c2 c3 c4 c5 c6 c7 d0 d1 d2 d3 d4 d5 d6 d7 I
              go_wp2
              refine ⟨⟨(m : Int) - 1, by omega, by omega, rfl, ?_⟩, by simp [intOf]⟩
              rw [show ((m : Int) - 1 + 1).toNat = m from by omega, ← SS.out.1, ← SS.out.2]
              exact IL
    · have : k = -1 := by omega
      subst this
      clear hk0 hk1 hk
      rw [show N / 2 ^ ((-1 : Int) + 1).toNat = N from by simp] at I
      obtain ⟨a0, a1, a2, a3, a4, a5, a6, a7⟩ := bbox_cells I.out.q
      have E1 := Lib.hid (quo_posV z n hn HM.out)
      rw [HN.out] at E1
      go_wp2_with fail
      refine (refNum_ex (N / n) _).mono ?_
      rintro e wl ⟨rfl, hbl⟩
      have HF := Lib.hid (I.out.fr.trans (hbl.mono I.out.fr.size))
      clear hbl
      go_wp2
      go_ret2
      exact ⟨ret_numb E1.out.1 E1.out.2, HF.out⟩
set_option maxRecDepth 10000 in
set_option maxHeartbeats 4000000 in
theorem refQuo_neg (z n : Int) (w : World) (hn : 1 ≤ n) (h1 : n ≤ 9223372036854775807) (hm : decide (sm z < 0) = true) :
    Calls Try.prog 21 #[.agg (bigC z), .int .i64 n] w fun e w' => e = .returned (.tuple #[.int .i64 (quoV z n), .bool (quoB z n)]) ∧ Below w.heap.size w w' := by
  have b0 := Lib.hid (bbox_new w z)
  have HB0 := Lib.hid (below_alloc1 w (.cells (bigC z) 30))
  have HM := Lib.hid hm
  have hd1 : decide (n < 1) = false := decide_eq_false (by omega)
  clear hm
  go_enter Try.func21, Try.ntmps21
  go_wp2_with fail
  refine (refMinus_is z true HM.out _).mono ?_
  rintro e w1 ⟨rfl, hb⟩
  have B1 := Lib.hid (bbox_on b0.out hb)
  have HB1 := Lib.hid (HB0.out.trans (hb.mono HB0.out.size))
  clear hb b0 HB0
  obtain ⟨c0, c1, c2, c3, c4, c5, c6, c7⟩ := bbox_cells B1.out
  go_wp2_with fail
  refine (refNeg_ex z _).mono ?_
  rintro e w2 ⟨rfl, hb⟩
  have B2 := Lib.hid (bbox_on B1.out hb)
  have HB2 := Lib.hid (HB1.out.trans (hb.mono HB1.out.size))
  clear hb c0 c1 c2 c3 c4 c5 c6 c7
  obtain ⟨c0, c1, c2, c3, c4, c5, c6, c7⟩ := bbox_cells B2.out
  obtain ⟨f0, f1, f2, f3, f4, f5, f6, f7⟩ := bbox_free B2.out
  go_wp2_with fail
  clear c0 c1 c2 c3 c4 c5 c6 c7 f0 f1 f2 f3 f4 f5 f6 f7
  have B3 := Lib.hid (bbox_set8 B2.out (-z))
  have HB3 := Lib.hid (below_set HB2.out (Nat.le_refl _) (-z))
  rw [set8_eq w2 w.heap.size (-z)]
  have hsz := set8_size w2 w.heap.size (-z)
  rw [← hsz]
  clear hsz
  generalize set8 w2 w.heap.size (-z) = wo at *
  have BN := Lib.hid (World.rowIs.congr B3.out (fun i hi => by rw [dg_cong (quo_ab_neg z HM.out) i hi]) : BBox wo w.heap.size (ab z))
  have HO := HB3
  clear B1 HB1 B2 HB2 B3 HB3
  have q0 := row8_new wo 0
  have r0 := row8_new (wo.alloc (.cells #[.int .u32 0, .int .u32 0, .int .u32 0, .int .u32 0, .int .u32 0, .int .u32 0, .int .u32 0, .int .u32 0] 30)) 0
  simp only [World.size_alloc] at r0
  have Q0 := Lib.hid (row8_zero (World.rowIs.alloc q0 (.cells #[.int .u32 0, .int .u32 0, .int .u32 0, .int .u32 0, .int .u32 0, .int .u32 0, .int .u32 0, .int .u32 0] 30)))
  have R0 := Lib.hid (row8_zero r0)
  have BN2 := Lib.hid (World.rowIs.alloc (World.rowIs.alloc BN.out (.cells #[.int .u32 0, .int .u32 0, .int .u32 0, .int .u32 0, .int .u32 0, .int .u32 0, .int .u32 0, .int .u32 0] 30)) (.cells #[.int .u32 0, .int .u32 0, .int .u32 0, .int .u32 0, .int .u32 0, .int .u32 0, .int .u32 0, .int .u32 0] 30))
  have HO2 := Lib.hid ((HO.out.alloc HO.out.size (.cells #[.int .u32 0, .int .u32 0, .int .u32 0, .int .u32 0, .int .u32 0, .int .u32 0, .int .u32 0, .int .u32 0] 30)).alloc (by simp; have := HO.out.size; omega) (.cells #[.int .u32 0, .int .u32 0, .int .u32 0, .int .u32 0, .int .u32 0, .int .u32 0, .int .u32 0, .int .u32 0] 30))
  have hlt := World.rowIs.lt BN.out
  clear q0 r0
  refine (refOf_ex n _ (by omega) h1).mono ?_
  rintro e w3 ⟨rfl, hb⟩
  have hsz : wo.heap.size + 1 < w3.heap.size := by have := hb.size; simp at this; omega
  have I0 : Hid (QInv w (w3.alloc (.cells (bigC n) 30)) w.heap.size wo.heap.size w3.heap.size (ab z) 0 0 n) := Lib.hid
    ⟨World.rowIs.alloc (bbox_on BN2.out hb) _, World.rowIs.alloc (bbox_on Q0.out hb) _, World.rowIs.alloc (bbox_on R0.out hb) _, bbox_new w3 n, Nat.le_refl _, hlt, hsz, (HO2.out.trans (hb.mono HO2.out.size)).alloc (HO2.out.trans (hb.mono HO2.out.size)).size _⟩
  clear hb BN HO Q0 R0 BN2 HO2 hsz hlt
  have hN := ab_bd z
  obtain ⟨hN0, hN1⟩ := hN
  generalize hN : ab z = N at *
  have HN := Lib.hid hN
  clear hN
  go_wp2
  generalize wo.heap.size = G at *
  generalize w3.heap.size = D at *
  generalize hB : w.heap.size = B at I0
  have HBB := Lib.hid hB
  clear hB
  go_loopw [10] (fun i wr => ∃ k : Int, -1 ≤ k ∧ k ≤ 127 ∧ i = .int .i64 k ∧ Hid (QInv w wr B G D N (N / 2 ^ (k + 1).toNat / n) (N / 2 ^ (k + 1).toNat % n) n)) (fun i _ => (intOf i + 1).toNat)
  case atStart =>
    refine ⟨127, by omega, by omega, rfl, ?_⟩
    rw [show ((127 : Int) + 1).toNat = 128 from rfl, show N / 2 ^ 128 = 0 from quo_top N hN0 hN1, Int.zero_ediv, Int.zero_emod]
    exact I0
  case round =>
    obtain ⟨k, hk0, hk1, rfl, I⟩ := hrel
    clear I0
    by_cases hk : 0 ≤ k
    · obtain ⟨m, rfl⟩ := Int.eq_ofNat_of_zero_le hk
      rw [show ((m : Int) + 1).toNat = m + 1 from by omega] at I
      have hmm : m < 128 := by omega
      have ST := Lib.hid (quo_step N n m hN0 hn)
      have BD := Lib.hid (quo_bd N n m hN0 hn h1)
      generalize N / 2 ^ (m + 1) / n = q at *
      generalize N / 2 ^ (m + 1) % n = r at *
      have hm0 : (0 : Int) ≤ (m : Int) := by omega
      go_wp2_with fail
      refine wp_region_par 6 [.agg #[.int .u32 (dg (r) 0), .int .u32 (dg (r) 1), .int .u32 (dg (r) 2), .int .u32 (dg (r) 3), .int .u32 (dg (r) 4), .int .u32 (dg (r) 5), .int .u32 (dg (r) 6), .int .u32 (dg (r) 7)], .agg #[.int .u32 (dg (r) 0), .int .u32 (dg (r) 1), .int .u32 (dg (r) 2), .int .u32 (dg (r) 3), .int .u32 (dg (r) 4), .int .u32 (dg (r) 5), .int .u32 (dg (r) 6), .int .u32 (dg (r) 7)], .agg #[.int .u32 (dg (r + r) 0), .int .u32 (dg (r + r) 1), .int .u32 (dg (r + r) 2), .int .u32 (dg (r + r) 3), .int .u32 (dg (r + r) 4), .int .u32 (dg (r + r) 5), .int .u32 (dg (r + r) 6), .int .u32 (dg (r + r) 7)], .agg #[.int .u32 (dg (q) 0), .int .u32 (dg (q) 1), .int .u32 (dg (q) 2), .int .u32 (dg (q) 3), .int .u32 (dg (q) 4), .int .u32 (dg (q) 5), .int .u32 (dg (q) 6), .int .u32 (dg (q) 7)], .agg #[.int .u32 (dg (q) 0), .int .u32 (dg (q) 1), .int .u32 (dg (q) 2), .int .u32 (dg (q) 3), .int .u32 (dg (q) 4), .int .u32 (dg (q) 5), .int .u32 (dg (q) 6), .int .u32 (dg (q) 7)], .agg #[.int .u32 (dg (q + q) 0), .int .u32 (dg (q + q) 1), .int .u32 (dg (q + q) 2), .int .u32 (dg (q + q) 3), .int .u32 (dg (q + q) 4), .int .u32 (dg (q + q) 5), .int .u32 (dg (q + q) 6), .int .u32 (dg (q + q) 7)]] (fun w' => QInv w w' B G D N (q) (r) n) ?A5 ?hm5 ?hB5 ?hA5 I.out.drew ?hop5 ?hT5
      case hm5 => kernel_rfl
      case hB5 => kernel_rfl
      case hA5 =>
        simp only [putA, dstAt, Act.put, List.getElem?_toArray, List.getElem?_cons_zero, List.getElem?_cons_succ, Option.bind_some, List.setIfInBounds_toArray, List.set_cons_zero, List.set_cons_succ, List.getD_cons_zero, List.getD_cons_succ]
        rfl
      case hop5 =>
        simp only [List.take_succ_cons, List.take_zero, GiveAll, and_true]
        refine ⟨fun w' hR => ?_, fun w' hR => ?_, fun w' hR => ?_, fun w' hR => ?_, fun w' hR => ?_, fun w' hR => ?_⟩
        · have HR := Lib.hid hR
          obtain ⟨a0, a1, a2, a3, a4, a5, a6, a7⟩ := bbox_cells hR.r
          clear hR
          simp only [Gives]
          go_simp
          exact HR.out
        · have HR := Lib.hid hR
          obtain ⟨a0, a1, a2, a3, a4, a5, a6, a7⟩ := bbox_cells hR.r
          clear hR
          simp only [Gives]
          go_simp
          exact HR.out
        · have HR := Lib.hid hR
          clear hR
          simp only [Gives]
          go_simp
          exact (refAdd_ex r r w').mono (fun e w'' ⟨he, hb⟩ => ⟨he, HR.out.on hb⟩)
        · have HR := Lib.hid hR
          obtain ⟨a0, a1, a2, a3, a4, a5, a6, a7⟩ := bbox_cells hR.q
          clear hR
          simp only [Gives]
          go_simp
          exact HR.out
        · have HR := Lib.hid hR
          obtain ⟨a0, a1, a2, a3, a4, a5, a6, a7⟩ := bbox_cells hR.q
          clear hR
          simp only [Gives]
          go_simp
          exact HR.out
        · have HR := Lib.hid hR
          clear hR
          simp only [Gives]
          go_simp
          exact (refAdd_ex q q w').mono (fun e w'' ⟨he, hb⟩ => ⟨he, HR.out.on hb⟩)
      case hT5 =>
        intro w' hR
        simp only [List.drop_succ_cons, List.drop_zero]
        clear I
        obtain ⟨a0, a1, a2, a3, a4, a5, a6, a7⟩ := bbox_cells hR.q
        obtain ⟨c0, c1, c2, c3, c4, c5, c6, c7⟩ := bbox_cells hR.r
        obtain ⟨f0, f1, f2, f3, f4, f5, f6, f7⟩ := bbox_free hR.q
        obtain ⟨g0, g1, g2, g3, g4, g5, g6, g7⟩ := bbox_free hR.r
        have I := Lib.hid hR
        clear hR
        go_upto_region 12 with fail
        rw [set8_eq w' (G + 1) (r + r), set8_eq (set8 w' (G + 1) (r + r)) G (q + q)]
        have I2 := Lib.hid ((I.out.setR (r + r)).setQ (q + q))
        clear I
        have I := I2
        clear I2 a0 a1 a2 a3 a4 a5 a6 a7 c0 c1 c2 c3 c4 c5 c6 c7 f0 f1 f2 f3 f4 f5 f6 f7 g0 g1 g2 g3 g4 g5 g6 g7
        generalize set8 (set8 w' (G + 1) (r + r)) G (q + q) = wo at *
        have hb0 := World.rowIs.cell I.out.b (i := m / 16) (by omega)
        have hdg0 := (dg_bd N (m / 16)).1
        have hdg1 := (dg_bd N (m / 16)).2
        have hbit := num_bit N m
        rcases (by omega : N / 2 ^ m % 2 = 0 ∨ N / 2 ^ m % 2 = 1) with hp | hp
        · have ht : (bits .and .u32 (dg N (m / 16) / 2 ^ (m % 16)) 1 == 1) = false := by rw [hbit, hp]; rfl
          have ST2 := Lib.hid (ST.out.1 hp)
          clear hbit hp
          cases hl : decide (sm (r + r) < sm n)
          · have SS := Lib.hid (ST2.out.2 (by have h5 := quo_ge hl (by have := BD.out; omega) (by have := BD.out; omega) hn h1; omega))
            have HL := Lib.hid hl
            clear hl
            obtain ⟨c0, c1, c2, c3, c4, c5, c6, c7⟩ := bbox_cells I.out.r
            obtain ⟨d0, d1, d2, d3, d4, d5, d6, d7⟩ := bbox_cells I.out.d
            go_wp2_with fail
            refine (refLess_is (r + r) n false HL.out _).mono ?_
            rintro e wl ⟨rfl, hbl⟩
            have IL := Lib.hid (I.out.on hbl)
            clear hbl c0 c1 c2 c3 c4 c5 c6 c7 d0 d1 d2 d3 d4 d5 d6 d7 I
            go_wp2_with fail
            refine wp_region_par 7 [.agg #[.int .u32 (dg (r + r) 0), .int .u32 (dg (r + r) 1), .int .u32 (dg (r + r) 2), .int .u32 (dg (r + r) 3), .int .u32 (dg (r + r) 4), .int .u32 (dg (r + r) 5), .int .u32 (dg (r + r) 6), .int .u32 (dg (r + r) 7)], .agg #[.int .u32 (dg (n) 0), .int .u32 (dg (n) 1), .int .u32 (dg (n) 2), .int .u32 (dg (n) 3), .int .u32 (dg (n) 4), .int .u32 (dg (n) 5), .int .u32 (dg (n) 6), .int .u32 (dg (n) 7)], .agg #[.int .u32 (dg (-n) 0), .int .u32 (dg (-n) 1), .int .u32 (dg (-n) 2), .int .u32 (dg (-n) 3), .int .u32 (dg (-n) 4), .int .u32 (dg (-n) 5), .int .u32 (dg (-n) 6), .int .u32 (dg (-n) 7)], .agg #[.int .u32 (dg (r + r + -n) 0), .int .u32 (dg (r + r + -n) 1), .int .u32 (dg (r + r + -n) 2), .int .u32 (dg (r + r + -n) 3), .int .u32 (dg (r + r + -n) 4), .int .u32 (dg (r + r + -n) 5), .int .u32 (dg (r + r + -n) 6), .int .u32 (dg (r + r + -n) 7)], .agg #[.int .u32 (dg (q + q) 0), .int .u32 (dg (q + q) 1), .int .u32 (dg (q + q) 2), .int .u32 (dg (q + q) 3), .int .u32 (dg (q + q) 4), .int .u32 (dg (q + q) 5), .int .u32 (dg (q + q) 6), .int .u32 (dg (q + q) 7)], .agg #[.int .u32 (dg (1) 0), .int .u32 (dg (1) 1), .int .u32 (dg (1) 2), .int .u32 (dg (1) 3), .int .u32 (dg (1) 4), .int .u32 (dg (1) 5), .int .u32 (dg (1) 6), .int .u32 (dg (1) 7)], .agg #[.int .u32 (dg (q + q + 1) 0), .int .u32 (dg (q + q + 1) 1), .int .u32 (dg (q + q + 1) 2), .int .u32 (dg (q + q + 1) 3), .int .u32 (dg (q + q + 1) 4), .int .u32 (dg (q + q + 1) 5), .int .u32 (dg (q + q + 1) 6), .int .u32 (dg (q + q + 1) 7)]] (fun w' => QInv w w' B G D N (q + q) (r + r) n) ?A2 ?hm2 ?hB2 ?hA2 IL.out.drew ?hop2 ?hT2
            case hm2 => kernel_rfl
            case hB2 => kernel_rfl
            case hA2 =>
              simp only [putA, dstAt, Act.put, List.getElem?_toArray, List.getElem?_cons_zero, List.getElem?_cons_succ, Option.bind_some, List.setIfInBounds_toArray, List.set_cons_zero, List.set_cons_succ, List.getD_cons_zero, List.getD_cons_succ]
              rfl
            case hop2 =>
              simp only [List.take_succ_cons, List.take_zero, GiveAll, and_true]
              refine ⟨fun w' hR => ?_, fun w' hR => ?_, fun w' hR => ?_, fun w' hR => ?_, fun w' hR => ?_, fun w' hR => ?_, fun w' hR => ?_⟩
              · have HR := Lib.hid hR
                obtain ⟨a0, a1, a2, a3, a4, a5, a6, a7⟩ := bbox_cells hR.r
                clear hR
                simp only [Gives]
                go_simp
                exact HR.out
              · have HR := Lib.hid hR
                obtain ⟨a0, a1, a2, a3, a4, a5, a6, a7⟩ := bbox_cells hR.d
                clear hR
                simp only [Gives]
                go_simp
                exact HR.out
              · have HR := Lib.hid hR
                clear hR
                simp only [Gives]
                go_simp
                exact (refNeg_ex n w').mono (fun e w'' ⟨he, hb⟩ => ⟨he, HR.out.on hb⟩)
              · have HR := Lib.hid hR
                clear hR
                simp only [Gives]
                go_simp
                exact (refAdd_ex (r + r) (-n) w').mono (fun e w'' ⟨he, hb⟩ => ⟨he, HR.out.on hb⟩)
              · have HR := Lib.hid hR
                obtain ⟨a0, a1, a2, a3, a4, a5, a6, a7⟩ := bbox_cells hR.q
                clear hR
                simp only [Gives]
                go_simp
                exact HR.out
              · have HR := Lib.hid hR
                clear hR
                simp only [Gives]
                go_simp
                exact (refOf_ex 1 w' (by decide) (by decide)).mono (fun e w'' ⟨he, hb⟩ => ⟨he, HR.out.on hb⟩)
              · have HR := Lib.hid hR
                clear hR
                simp only [Gives]
                go_simp
                exact (refAdd_ex (q + q) 1 w').mono (fun e w'' ⟨he, hb⟩ => ⟨he, HR.out.on hb⟩)
            case hT2 =>
              intro w' hR
              simp only [List.drop_succ_cons, List.drop_zero]
              obtain ⟨a0, a1, a2, a3, a4, a5, a6, a7⟩ := bbox_cells hR.q
              obtain ⟨c0, c1, c2, c3, c4, c5, c6, c7⟩ := bbox_cells hR.r
              obtain ⟨f0, f1, f2, f3, f4, f5, f6, f7⟩ := bbox_free hR.q
              obtain ⟨g0, g1, g2, g3, g4, g5, g6, g7⟩ := bbox_free hR.r
              have I := Lib.hid hR
              clear hR
              go_wp2
              refine ⟨⟨(m : Int) - 1, by omega, by omega, rfl, ?_⟩, by simp [intOf]⟩
              rw [show ((m : Int) - 1 + 1).toNat = m from by omega, ← SS.out.1, ← SS.out.2]
              exact Lib.hid ((I.out.setR (r + r + -n)).setQ (q + q + 1))
          · have SS := Lib.hid (ST2.out.1 (quo_lt hl (by have := BD.out; omega) (by have := BD.out; omega) hn h1))
            have HL := Lib.hid hl
            clear hl
            obtain ⟨c0, c1, c2, c3, c4, c5, c6, c7⟩ := bbox_cells I.out.r
            obtain ⟨d0, d1, d2, d3, d4, d5, d6, d7⟩ := bbox_cells I.out.d
            go_wp2_with fail
            refine (refLess_is (r + r) n true HL.out _).mono ?_
            rintro e wl ⟨rfl, hbl⟩
            have IL := Lib.hid (I.out.on hbl)
            clear hbl c0 c1 c2 c3 c4 c5 c6 c7 d0 d1 d2 d3 d4 d5 d6 d7 I
            go_wp2
            refine ⟨⟨(m : Int) - 1, by omega, by omega, rfl, ?_⟩, by simp [intOf]⟩
            rw [show ((m : Int) - 1 + 1).toNat = m from by omega, ← SS.out.1, ← SS.out.2]
            exact IL
        · have ht : (bits .and .u32 (dg N (m / 16) / 2 ^ (m % 16)) 1 == 1) = true := by rw [hbit, hp]; rfl
          have ST2 := Lib.hid (ST.out.2 hp)
          clear hbit hp
          go_wp2_with fail
          refine wp_region_par 3 [.agg #[.int .u32 (dg (r + r) 0), .int .u32 (dg (r + r) 1), .int .u32 (dg (r + r) 2), .int .u32 (dg (r + r) 3), .int .u32 (dg (r + r) 4), .int .u32 (dg (r + r) 5), .int .u32 (dg (r + r) 6), .int .u32 (dg (r + r) 7)], .agg #[.int .u32 (dg (1) 0), .int .u32 (dg (1) 1), .int .u32 (dg (1) 2), .int .u32 (dg (1) 3), .int .u32 (dg (1) 4), .int .u32 (dg (1) 5), .int .u32 (dg (1) 6), .int .u32 (dg (1) 7)], .agg #[.int .u32 (dg (r + r + 1) 0), .int .u32 (dg (r + r + 1) 1), .int .u32 (dg (r + r + 1) 2), .int .u32 (dg (r + r + 1) 3), .int .u32 (dg (r + r + 1) 4), .int .u32 (dg (r + r + 1) 5), .int .u32 (dg (r + r + 1) 6), .int .u32 (dg (r + r + 1) 7)]] (fun w' => QInv w w' B G D N (q + q) (r + r) n) ?A4 ?hm4 ?hB4 ?hA4 I.out.drew ?hop4 ?hT4
          case hm4 => kernel_rfl
          case hB4 => kernel_rfl
          case hA4 =>
            simp only [putA, dstAt, Act.put, List.getElem?_toArray, List.getElem?_cons_zero, List.getElem?_cons_succ, Option.bind_some, List.setIfInBounds_toArray, List.set_cons_zero, List.set_cons_succ, List.getD_cons_zero, List.getD_cons_succ]
            rfl
          case hop4 =>
            simp only [List.take_succ_cons, List.take_zero, GiveAll, and_true]
            refine ⟨fun w' hR => ?_, fun w' hR => ?_, fun w' hR => ?_⟩
            · have HR := Lib.hid hR
              obtain ⟨a0, a1, a2, a3, a4, a5, a6, a7⟩ := bbox_cells hR.r
              clear hR
              simp only [Gives]
              go_simp
              exact HR.out
            · have HR := Lib.hid hR
              clear hR
              simp only [Gives]
              go_simp
              exact (refOf_ex 1 w' (by decide) (by decide)).mono (fun e w'' ⟨he, hb⟩ => ⟨he, HR.out.on hb⟩)
            · have HR := Lib.hid hR
              clear hR
              simp only [Gives]
              go_simp
              exact (refAdd_ex (r + r) 1 w').mono (fun e w'' ⟨he, hb⟩ => ⟨he, HR.out.on hb⟩)
          case hT4 =>
            intro w' hR
            simp only [List.drop_succ_cons, List.drop_zero]
            clear I
            obtain ⟨c0, c1, c2, c3, c4, c5, c6, c7⟩ := bbox_cells hR.r
            obtain ⟨g0, g1, g2, g3, g4, g5, g6, g7⟩ := bbox_free hR.r
            have I1 := Lib.hid hR
            clear hR
            go_upto_region 14 with fail
            rw [set8_eq w' (G + 1) (r + r + 1)]
            have I := Lib.hid (I1.out.setR (r + r + 1))
            clear I1 c0 c1 c2 c3 c4 c5 c6 c7 g0 g1 g2 g3 g4 g5 g6 g7
            generalize set8 w' (G + 1) (r + r + 1) = wp at *
            cases hl : decide (sm (r + r + 1) < sm n)
            · have SS := Lib.hid (ST2.out.2 (by have h5 := quo_ge hl (by have := BD.out; omega) (by have := BD.out; omega) hn h1; omega))
              have HL := Lib.hid hl
              clear hl
              obtain ⟨c0, c1, c2, c3, c4, c5, c6, c7⟩ := bbox_cells I.out.r
              obtain ⟨d0, d1, d2, d3, d4, d5, d6, d7⟩ := bbox_cells I.out.d
              go_wp2_with fail
              refine (refLess_is (r + r + 1) n false HL.out _).mono ?_
              rintro e wl ⟨rfl, hbl⟩
              have IL := Lib.hid (I.out.on hbl)
              clear hbl c0 c1 c2 c3 c4 c5 c6 c7 d0 d1 d2 d3 d4 d5 d6 d7 I
              go_wp2_with fail
              refine wp_region_par 7 [.agg #[.int .u32 (dg (r + r + 1) 0), .int .u32 (dg (r + r + 1) 1), .int .u32 (dg (r + r + 1) 2), .int .u32 (dg (r + r + 1) 3), .int .u32 (dg (r + r + 1) 4), .int .u32 (dg (r + r + 1) 5), .int .u32 (dg (r + r + 1) 6), .int .u32 (dg (r + r + 1) 7)], .agg #[.int .u32 (dg (n) 0), .int .u32 (dg (n) 1), .int .u32 (dg (n) 2), .int .u32 (dg (n) 3), .int .u32 (dg (n) 4), .int .u32 (dg (n) 5), .int .u32 (dg (n) 6), .int .u32 (dg (n) 7)], .agg #[.int .u32 (dg (-n) 0), .int .u32 (dg (-n) 1), .int .u32 (dg (-n) 2), .int .u32 (dg (-n) 3), .int .u32 (dg (-n) 4), .int .u32 (dg (-n) 5), .int .u32 (dg (-n) 6), .int .u32 (dg (-n) 7)], .agg #[.int .u32 (dg (r + r + 1 + -n) 0), .int .u32 (dg (r + r + 1 + -n) 1), .int .u32 (dg (r + r + 1 + -n) 2), .int .u32 (dg (r + r + 1 + -n) 3), .int .u32 (dg (r + r + 1 + -n) 4), .int .u32 (dg (r + r + 1 + -n) 5), .int .u32 (dg (r + r + 1 + -n) 6), .int .u32 (dg (r + r + 1 + -n) 7)], .agg #[.int .u32 (dg (q + q) 0), .int .u32 (dg (q + q) 1), .int .u32 (dg (q + q) 2), .int .u32 (dg (q + q) 3), .int .u32 (dg (q + q) 4), .int .u32 (dg (q + q) 5), .int .u32 (dg (q + q) 6), .int .u32 (dg (q + q) 7)], .agg #[.int .u32 (dg (1) 0), .int .u32 (dg (1) 1), .int .u32 (dg (1) 2), .int .u32 (dg (1) 3), .int .u32 (dg (1) 4), .int .u32 (dg (1) 5), .int .u32 (dg (1) 6), .int .u32 (dg (1) 7)], .agg #[.int .u32 (dg (q + q + 1) 0), .int .u32 (dg (q + q + 1) 1), .int .u32 (dg (q + q + 1) 2), .int .u32 (dg (q + q + 1) 3), .int .u32 (dg (q + q + 1) 4), .int .u32 (dg (q + q + 1) 5), .int .u32 (dg (q + q + 1) 6), .int .u32 (dg (q + q + 1) 7)]] (fun w' => QInv w w' B G D N (q + q) (r + r + 1) n) ?A3 ?hm3 ?hB3 ?hA3 IL.out.drew ?hop3 ?hT3
              case hm3 => kernel_rfl
              case hB3 => kernel_rfl
              case hA3 =>
                simp only [putA, dstAt, Act.put, List.getElem?_toArray, List.getElem?_cons_zero, List.getElem?_cons_succ, Option.bind_some, List.setIfInBounds_toArray, List.set_cons_zero, List.set_cons_succ, List.getD_cons_zero, List.getD_cons_succ]
                rfl
              case hop3 =>
                simp only [List.take_succ_cons, List.take_zero, GiveAll, and_true]
                refine ⟨fun w' hR => ?_, fun w' hR => ?_, fun w' hR => ?_, fun w' hR => ?_, fun w' hR => ?_, fun w' hR => ?_, fun w' hR => ?_⟩
                · have HR := Lib.hid hR
                  obtain ⟨a0, a1, a2, a3, a4, a5, a6, a7⟩ := bbox_cells hR.r
                  clear hR
                  simp only [Gives]
                  go_simp
                  exact HR.out
                · have HR := Lib.hid hR
                  obtain ⟨a0, a1, a2, a3, a4, a5, a6, a7⟩ := bbox_cells hR.d
                  clear hR
                  simp only [Gives]
                  go_simp
                  exact HR.out
                · have HR := Lib.hid hR
                  clear hR
                  simp only [Gives]
                  go_simp
                  exact (refNeg_ex n w').mono (fun e w'' ⟨he, hb⟩ => ⟨he, HR.out.on hb⟩)
                · have HR := Lib.hid hR
                  clear hR
                  simp only [Gives]
                  go_simp
                  exact (refAdd_ex (r + r + 1) (-n) w').mono (fun e w'' ⟨he, hb⟩ => ⟨he, HR.out.on hb⟩)
                · have HR := Lib.hid hR
                  obtain ⟨a0, a1, a2, a3, a4, a5, a6, a7⟩ := bbox_cells hR.q
                  clear hR
                  simp only [Gives]
                  go_simp
                  exact HR.out
                · have HR := Lib.hid hR
                  clear hR
                  simp only [Gives]
                  go_simp
                  exact (refOf_ex 1 w' (by decide) (by decide)).mono (fun e w'' ⟨he, hb⟩ => ⟨he, HR.out.on hb⟩)
                · have HR := Lib.hid hR
                  clear hR
                  simp only [Gives]
                  go_simp
                  exact (refAdd_ex (q + q) 1 w').mono (fun e w'' ⟨he, hb⟩ => ⟨he, HR.out.on hb⟩)
              case hT3 =>
                intro w' hR
                simp only [List.drop_succ_cons, List.drop_zero]
                obtain ⟨a0, a1, a2, a3, a4, a5, a6, a7⟩ := bbox_cells hR.q
                obtain ⟨c0, c1, c2, c3, c4, c5, c6, c7⟩ := bbox_cells hR.r
                obtain ⟨f0, f1, f2, f3, f4, f5, f6, f7⟩ := bbox_free hR.q
                obtain ⟨g0, g1, g2, g3, g4, g5, g6, g7⟩ := bbox_free hR.r
                have I := Lib.hid hR
                clear hR
                go_wp2
                refine ⟨⟨(m : Int) - 1, by omega, by omega, rfl, ?_⟩, by simp [intOf]⟩
                rw [show ((m : Int) - 1 + 1).toNat = m from by omega, ← SS.out.1, ← SS.out.2]
                exact Lib.hid ((I.out.setR (r + r + 1 + -n)).setQ (q + q + 1))
            · have SS := Lib.hid (ST2.out.1 (quo_lt hl (by have := BD.out; omega) (by have := BD.out; omega) hn h1))
              have HL := Lib.hid hl
              clear hl
              obtain ⟨c0, c1, c2, c3, c4, c5, c6, c7⟩ := bbox_cells I.out.r
              obtain ⟨d0, d1, d2, d3, d4, d5, d6, d7⟩ := bbox_cells I.out.d
              go_wp2_with fail
              refine (refLess_is (r + r + 1) n true HL.out _).mono ?_
              rintro e wl ⟨rfl, hbl⟩
              have IL := Lib.hid (I.out.on hbl)
              clear hbl c0 c1 c2 c3 c4 c5 c6 c7 d0 d1 d2 d3 d4 d5 d6 d7 I
              go_wp2
              refine ⟨⟨(m : Int) - 1, by omega, by omega, rfl, ?_⟩, by simp [intOf]⟩
              rw [show ((m : Int) - 1 + 1).toNat = m from by omega, ← SS.out.1, ← SS.out.2]
              exact IL
    · have : k = -1 := by omega
      subst this
      clear hk0 hk1 hk
      rw [show N / 2 ^ ((-1 : Int) + 1).toNat = N from by simp] at I
      obtain ⟨a0, a1, a2, a3, a4, a5, a6, a7⟩ := bbox_cells I.out.q
      have E1 := Lib.hid (quo_negV z n hn HM.out)
      rw [HN.out] at E1
      go_wp2_with fail
      refine (refNeg_ex (N / n) _).mono ?_
      rintro e wk ⟨rfl, hbk⟩
      have IK := Lib.hid (I.out.on hbk)
      clear hbk a0 a1 a2 a3 a4 a5 a6 a7
      obtain ⟨a0, a1, a2, a3, a4, a5, a6, a7⟩ := bbox_cells IK.out.q
      obtain ⟨f0, f1, f2, f3, f4, f5, f6, f7⟩ := bbox_free IK.out.q
      go_wp2_with fail
      refine (refNum_ex (-(N / n)) _).mono ?_
      rintro e wl ⟨rfl, hbl⟩
      have IS := Lib.hid (IK.out.setQ (-(N / n)))
      have hbl' : Below (set8 wk G (-(N / n))).heap.size (set8 wk G (-(N / n))) wl := hbl
      have HF := Lib.hid (IS.out.fr.trans (hbl'.mono IS.out.fr.size))
      clear hbl hbl'
      go_wp2
      go_ret2
      exact ⟨ret_numb E1.out.1 E1.out.2, HF.out⟩
end Go.Proofs.Ytfcllangolinaaa
