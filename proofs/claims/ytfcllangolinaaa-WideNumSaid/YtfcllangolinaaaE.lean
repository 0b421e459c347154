/- Contracts of the reference's Big: Of, Add. -/
import Derived.Test.YtfcllangolinaaaC
import Derived.Deep.OwnRows
import Derived.LoopTactic
namespace Go.Proofs.Ytfcllangolinaaa
open Go Go.RowKit

/-- The eight cells of a number. -/
abbrev bigC (z : Int) : Array Value := #[.int .u32 (dg z 0), .int .u32 (dg z 1), .int .u32 (dg z 2), .int .u32 (dg z 3), .int .u32 (dg z 4), .int .u32 (dg z 5), .int .u32 (dg z 6), .int .u32 (dg z 7)]
/-- Block g holds a number's eight cells. -/
def BBox (w : World) (g : Nat) (z : Int) : Prop := w.rowIs g 30 8 (fun j => .int .u32 (dg z j))
/-- Block g is a number's eight cells, to the place k; behind that nought. -/
def Row8 (w : World) (g : Nat) (z : Int) (k : Nat) : Prop := w.rowIs g 30 8 (fun j => if j < k then .int .u32 (dg z j) else .int .u32 0)
theorem big_at (z : Int) (i : Nat) (h : i < 8) : (bigC z)[i]? = some (.int .u32 (dg z i)) := by
  rcases (by omega : i = 0 ∨ i = 1 ∨ i = 2 ∨ i = 3 ∨ i = 4 ∨ i = 5 ∨ i = 6 ∨ i = 7) with rfl | rfl | rfl | rfl | rfl | rfl | rfl | rfl <;> rfl
theorem nil_at (z : Int) (i : Nat) (h : i < 8) : (#[.int .u32 0, .int .u32 0, .int .u32 0, .int .u32 0, .int .u32 0, .int .u32 0, .int .u32 0, .int .u32 0] : Array Value)[i]? = some (if i < 0 then .int .u32 (dg z i) else .int .u32 0) := by
  rcases (by omega : i = 0 ∨ i = 1 ∨ i = 2 ∨ i = 3 ∨ i = 4 ∨ i = 5 ∨ i = 6 ∨ i = 7) with rfl | rfl | rfl | rfl | rfl | rfl | rfl | rfl <;> rfl
theorem bbox_new (w : World) (z : Int) : BBox (w.alloc (.cells (bigC z) 30)) w.heap.size z := World.rowIs_alloc w (bigC z) 30 _ (fun i hi => big_at z i hi)
theorem row8_new (w : World) (z : Int) : Row8 (w.alloc (.cells #[.int .u32 0, .int .u32 0, .int .u32 0, .int .u32 0, .int .u32 0, .int .u32 0, .int .u32 0, .int .u32 0] 30)) w.heap.size z 0 := World.rowIs_alloc w _ 30 _ (fun i hi => nil_at z i hi)

theorem and16_u32 (a : Int) (h0 : 0 ≤ a) (h1 : a < 4294967296) : bits .and .u32 a 65535 = a % 65536 := by
  rw [u32_and a 65535 h0 h1 (by decide) (by decide)]
  rw [show (65535 : Int).toNat = 2 ^ 16 - 1 from rfl, Nat.and_two_pow_sub_one_eq_mod]
  omega
theorem row8_step {w : World} {g k : Nat} {z v : Int} (h : Row8 w g z k) (hv : v = dg z k) (n : Nat) : Row8 ((w.drewN n).setCell ⟨g, k, none⟩ (.int .u32 v)) g z (k + 1) := by
  subst hv
  have h' : World.rowIs (w.drewN n) g 30 8 (fun j => if j < k then .int .u32 (dg z j) else .int .u32 0) := h
  refine (h'.set k (.int .u32 (dg z k))).congr ?_
  intro i hi
  by_cases e : i = k
  · subst e; simp
  · have e1 : (i < k + 1) = (i < k) := by apply propext; omega
    simp only [e, if_false, e1]
theorem bbox_far {w : World} {g : Nat} {z : Int} {a : Addr} {v : Value} (h : BBox w g z) (ha : g ≠ a.block) (n : Nat) : BBox ((w.drewN n).setCell a v) g z :=
  World.rowIs.setOther (w := w.drewN n) h ha v
theorem row8_far {w : World} {g k : Nat} {z : Int} {a : Addr} {v : Value} (h : Row8 w g z k) (ha : g ≠ a.block) (n : Nat) : Row8 ((w.drewN n).setCell a v) g z k :=
  World.rowIs.setOther (w := w.drewN n) h ha v
theorem row8_done {w : World} {g : Nat} {z : Int} (h : Row8 w g z 8) : BBox w g z := h.congr (fun i hi => by rw [if_pos hi])
theorem bbox_cells {w : World} {g : Nat} {z : Int} (h : BBox w g z) : w.cell? ⟨g, 0, none⟩ = some (.int .u32 (dg z 0)) ∧ w.cell? ⟨g, 1, none⟩ = some (.int .u32 (dg z 1)) ∧ w.cell? ⟨g, 2, none⟩ = some (.int .u32 (dg z 2)) ∧ w.cell? ⟨g, 3, none⟩ = some (.int .u32 (dg z 3)) ∧ w.cell? ⟨g, 4, none⟩ = some (.int .u32 (dg z 4)) ∧ w.cell? ⟨g, 5, none⟩ = some (.int .u32 (dg z 5)) ∧ w.cell? ⟨g, 6, none⟩ = some (.int .u32 (dg z 6)) ∧ w.cell? ⟨g, 7, none⟩ = some (.int .u32 (dg z 7)) :=
  ⟨h.cell (by omega), h.cell (by omega), h.cell (by omega), h.cell (by omega), h.cell (by omega), h.cell (by omega), h.cell (by omega), h.cell (by omega)⟩
theorem row8_cells {w : World} {g : Nat} {z : Int} (h : Row8 w g z 0) : w.cell? ⟨g, 0, none⟩ = some (.int .u32 0) ∧ w.cell? ⟨g, 1, none⟩ = some (.int .u32 0) ∧ w.cell? ⟨g, 2, none⟩ = some (.int .u32 0) ∧ w.cell? ⟨g, 3, none⟩ = some (.int .u32 0) ∧ w.cell? ⟨g, 4, none⟩ = some (.int .u32 0) ∧ w.cell? ⟨g, 5, none⟩ = some (.int .u32 0) ∧ w.cell? ⟨g, 6, none⟩ = some (.int .u32 0) ∧ w.cell? ⟨g, 7, none⟩ = some (.int .u32 0) :=
  ⟨h.cell (by omega), h.cell (by omega), h.cell (by omega), h.cell (by omega), h.cell (by omega), h.cell (by omega), h.cell (by omega), h.cell (by omega)⟩
theorem row8_free {w : World} {g k : Nat} {z : Int} (h : Row8 w g z k) : w.frozen? ⟨g, 0, none⟩ = false ∧ w.frozen? ⟨g, 1, none⟩ = false ∧ w.frozen? ⟨g, 2, none⟩ = false ∧ w.frozen? ⟨g, 3, none⟩ = false ∧ w.frozen? ⟨g, 4, none⟩ = false ∧ w.frozen? ⟨g, 5, none⟩ = false ∧ w.frozen? ⟨g, 6, none⟩ = false ∧ w.frozen? ⟨g, 7, none⟩ = false :=
  ⟨h.frozen _, h.frozen _, h.frozen _, h.frozen _, h.frozen _, h.frozen _, h.frozen _, h.frozen _⟩

theorem below_set8 {B g : Nat} {w wr : World} (h : Below B w wr) (hg : B ≤ g) (v0 v1 v2 v3 v4 v5 v6 v7 : Value) :
    Below B w ((((((((wr.setCell ⟨g, 0, none⟩ v0).setCell ⟨g, 1, none⟩ v1).setCell ⟨g, 2, none⟩ v2).setCell ⟨g, 3, none⟩ v3).setCell ⟨g, 4, none⟩ v4).setCell ⟨g, 5, none⟩ v5).setCell ⟨g, 6, none⟩ v6).setCell ⟨g, 7, none⟩ v7) :=
  (((((((h.setCell hg v0).setCell hg v1).setCell hg v2).setCell hg v3).setCell hg v4).setCell hg v5).setCell hg v6).setCell hg v7

set_option maxHeartbeats 400000 in
theorem refAdd_any (x y : Int) (w : World) :
    Calls Try.prog 13 #[.agg (bigC x), .agg (bigC y)] w fun e w' => e = .returned (.agg (bigC (x + y))) ∧ Below w.heap.size w w' := by
  have b0 := bbox_new w x
  have b1 := bbox_new (w.alloc (.cells (bigC x) 30)) y
  have b2 := row8_new ((w.alloc (.cells (bigC x) 30)).alloc (.cells (bigC y) 30)) 0
  have b3 := row8_new (((w.alloc (.cells (bigC x) 30)).alloc (.cells (bigC y) 30)).alloc (.cells #[.int .u32 0, .int .u32 0, .int .u32 0, .int .u32 0, .int .u32 0, .int .u32 0, .int .u32 0, .int .u32 0] 30)) (x + y)
  simp only [World.size_alloc] at b1 b2 b3
  have B0 := Lib.hid (((b0.alloc (.cells (bigC y) 30)).alloc (.cells #[.int .u32 0, .int .u32 0, .int .u32 0, .int .u32 0, .int .u32 0, .int .u32 0, .int .u32 0, .int .u32 0] 30)).alloc (.cells #[.int .u32 0, .int .u32 0, .int .u32 0, .int .u32 0, .int .u32 0, .int .u32 0, .int .u32 0, .int .u32 0] 30))
  have B1 := Lib.hid (((b1.alloc (.cells #[.int .u32 0, .int .u32 0, .int .u32 0, .int .u32 0, .int .u32 0, .int .u32 0, .int .u32 0, .int .u32 0] 30)).alloc (.cells #[.int .u32 0, .int .u32 0, .int .u32 0, .int .u32 0, .int .u32 0, .int .u32 0, .int .u32 0, .int .u32 0] 30)))
  have B2 := Lib.hid (((b2.alloc (.cells #[.int .u32 0, .int .u32 0, .int .u32 0, .int .u32 0, .int .u32 0, .int .u32 0, .int .u32 0, .int .u32 0] 30))))
  have B3 := Lib.hid b3
  have HB := Lib.hid ((below_alloc3 w (.cells (bigC x) 30) (.cells (bigC y) 30) (.cells #[.int .u32 0, .int .u32 0, .int .u32 0, .int .u32 0, .int .u32 0, .int .u32 0, .int .u32 0, .int .u32 0] 30)).alloc (by simp; omega) (.cells #[.int .u32 0, .int .u32 0, .int .u32 0, .int .u32 0, .int .u32 0, .int .u32 0, .int .u32 0, .int .u32 0] 30))
  clear b0 b1 b2 b3
  go_enter Try.func13, Try.ntmps13
  go_wp2
  go_loopw [6, 7] (fun c i wr => ∃ k : Nat, k ≤ 8 ∧ i = .int .i64 k ∧ c = .int .u32 (car x y k) ∧ Hid (BBox wr w.heap.size x) ∧ Hid (BBox wr (w.heap.size + 1) y) ∧ Hid (Row8 wr (w.heap.size + 1 + 1) 0 0) ∧ Hid (Row8 wr (w.heap.size + 1 + 1 + 1) (x + y) k) ∧ Hid (Below w.heap.size w wr)) (fun _ i _ => 8 - (intOf i).toNat)
  case atStart => exact ⟨0, by omega, rfl, by rw [car0], B0, B1, B2, B3, HB⟩
  case round =>
    obtain ⟨k, hk, rfl, rfl, X, Y, R, O, HW⟩ := hrel
    clear B0 B1 B2 B3 HB
    by_cases hlt : k < 8
    · have c0 := X.out.cell hlt
      have c1 := Y.out.cell hlt
      have c2 := O.out.cell hlt
      rw [if_neg (by omega)] at c2
      have f2 := O.out.frozen k
      have hk0 : (0 : Int) ≤ (k : Int) := by omega
      have hk1 : (k : Int) < 8 := by omega
      have d0 := dg_bd x k
      have d1 := dg_bd y k
      have d2 := car_bd x y k
      obtain ⟨d00, d01⟩ := d0
      obtain ⟨d10, d11⟩ := d1
      obtain ⟨d20, d21⟩ := d2
      go_wp2
      go_quiet (fail)
      go_wp2
      refine ⟨⟨k + 1, by omega, by go_num, ?_, Lib.hid (bbox_far X.out (by simp; omega) _), Lib.hid (bbox_far Y.out (by simp) _), Lib.hid (row8_far R.out (by simp) _), Lib.hid (row8_step O.out ?_ _), Lib.hid ((below_drewN HW.out _).setCell (by simp; omega) _)⟩, by simp [intOf]; omega⟩
      · rw [car_succ, show car x y k + (dg x k + dg y k) = dg x k + dg y k + car x y k from by omega]
      · rw [and16_u32 _ (by omega) (by omega), dg_add, show car x y k + (dg x k + dg y k) = dg x k + dg y k + car x y k from by omega]
    · obtain rfl : k = 8 := by omega
      obtain ⟨o0, o1, o2, o3, o4, o5, o6, o7⟩ := bbox_cells (row8_done O.out)
      obtain ⟨r0, r1, r2, r3, r4, r5, r6, r7⟩ := row8_cells R.out
      obtain ⟨f0, f1, f2, f3, f4, f5, f6, f7⟩ := row8_free R.out
      go_wp2
      refine bodyPost_ret (v := .agg (bigC (x + y))) (by simp [results, Try.results13, go_sem, r0, r1, r2, r3, r4, r5, r6, r7]) rfl ⟨rfl, ?_⟩
      exact below_set8 HW.out (by omega) _ _ _ _ _ _ _ _
end Go.Proofs.Ytfcllangolinaaa
