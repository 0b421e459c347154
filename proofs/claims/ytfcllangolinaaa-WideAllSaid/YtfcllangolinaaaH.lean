/- Contract of the reference's Big: Less. -/
import Derived.Test.YtfcllangolinaaaG
namespace Go.Proofs.Ytfcllangolinaaa
open Go Go.RowKit

theorem refMinus_ex (z : Int) (w : World) :
    Calls Try.prog 33 #[.agg #[.int .u32 (dg (z) 0), .int .u32 (dg (z) 1), .int .u32 (dg (z) 2), .int .u32 (dg (z) 3), .int .u32 (dg (z) 4), .int .u32 (dg (z) 5), .int .u32 (dg (z) 6), .int .u32 (dg (z) 7)]] w fun e w' => e = .returned (.bool (decide (sm z < 0))) ∧ Below w.heap.size w w' := refMinus_any z w
/-- A number from 0 to 2^128 - 1. -/
def un (z : Int) : Int := z % 340282366920938463463374607431768211456
theorem less_at (x y : Int) (m : Nat) (h : m < 8) (hs : decide (sm x < 0) = decide (sm y < 0)) (hu : un x / 65536 ^ (m + 1) = un y / 65536 ^ (m + 1)) (hd : dg x m ≠ dg y m) : decide (dg x m < dg y m) = decide (sm x < sm y) := by
  rw [decide_eq_decide] at hs ⊢
  unfold dg at hd ⊢; unfold un at hu; unfold sm at hs ⊢
  rcases (by omega : m = 0 ∨ m = 1 ∨ m = 2 ∨ m = 3 ∨ m = 4 ∨ m = 5 ∨ m = 6 ∨ m = 7) with rfl | rfl | rfl | rfl | rfl | rfl | rfl | rfl <;> simp only [Nat.reduceAdd, Int.reducePow] at * <;> omega
theorem less_step (x y : Int) (m : Nat) (h : m < 8) (hu : un x / 65536 ^ (m + 1) = un y / 65536 ^ (m + 1)) (hd : dg x m = dg y m) : un x / 65536 ^ m = un y / 65536 ^ m := by
  unfold dg at hd; unfold un at hu ⊢
  rcases (by omega : m = 0 ∨ m = 1 ∨ m = 2 ∨ m = 3 ∨ m = 4 ∨ m = 5 ∨ m = 6 ∨ m = 7) with rfl | rfl | rfl | rfl | rfl | rfl | rfl | rfl <;> simp only [Nat.reduceAdd, Int.reducePow] at * <;> omega
theorem less_top (x y : Int) : un x / 65536 ^ ((7 : Int) + 1).toNat = un y / 65536 ^ ((7 : Int) + 1).toNat := by
  rw [show ((7 : Int) + 1).toNat = 8 from rfl]; unfold un; simp only [Int.reducePow]; omega
theorem less_end (x y : Int) (hu : un x / 65536 ^ ((-1 : Int) + 1).toNat = un y / 65536 ^ ((-1 : Int) + 1).toNat) : false = decide (sm x < sm y) := by
  rw [show ((-1 : Int) + 1).toNat = 0 from rfl] at hu
  simp only [Int.pow_zero, Int.ediv_one] at hu
  have : sm x = sm y := sm_congr hu
  rw [this]; simp
theorem less_sign (x y : Int) (hs : ¬ decide (sm x < 0) = decide (sm y < 0)) : decide (sm x < 0) = decide (sm x < sm y) := by
  rw [decide_eq_decide] at hs ⊢; omega

theorem held16 {g : Nat} {x y : Int} {w w' : World} (h : g + 1 < w.heap.size ∧ w.cell? ⟨g, 0, none⟩ = some (.int .u32 (dg (x) 0)) ∧ w.cell? ⟨g, 1, none⟩ = some (.int .u32 (dg (x) 1)) ∧ w.cell? ⟨g, 2, none⟩ = some (.int .u32 (dg (x) 2)) ∧ w.cell? ⟨g, 3, none⟩ = some (.int .u32 (dg (x) 3)) ∧ w.cell? ⟨g, 4, none⟩ = some (.int .u32 (dg (x) 4)) ∧ w.cell? ⟨g, 5, none⟩ = some (.int .u32 (dg (x) 5)) ∧ w.cell? ⟨g, 6, none⟩ = some (.int .u32 (dg (x) 6)) ∧ w.cell? ⟨g, 7, none⟩ = some (.int .u32 (dg (x) 7)) ∧ w.cell? ⟨g + 1, 0, none⟩ = some (.int .u32 (dg (y) 0)) ∧ w.cell? ⟨g + 1, 1, none⟩ = some (.int .u32 (dg (y) 1)) ∧ w.cell? ⟨g + 1, 2, none⟩ = some (.int .u32 (dg (y) 2)) ∧ w.cell? ⟨g + 1, 3, none⟩ = some (.int .u32 (dg (y) 3)) ∧ w.cell? ⟨g + 1, 4, none⟩ = some (.int .u32 (dg (y) 4)) ∧ w.cell? ⟨g + 1, 5, none⟩ = some (.int .u32 (dg (y) 5)) ∧ w.cell? ⟨g + 1, 6, none⟩ = some (.int .u32 (dg (y) 6)) ∧ w.cell? ⟨g + 1, 7, none⟩ = some (.int .u32 (dg (y) 7))) (hb : Below w.heap.size w w') :
    g + 1 < w'.heap.size ∧ w'.cell? ⟨g, 0, none⟩ = some (.int .u32 (dg (x) 0)) ∧ w'.cell? ⟨g, 1, none⟩ = some (.int .u32 (dg (x) 1)) ∧ w'.cell? ⟨g, 2, none⟩ = some (.int .u32 (dg (x) 2)) ∧ w'.cell? ⟨g, 3, none⟩ = some (.int .u32 (dg (x) 3)) ∧ w'.cell? ⟨g, 4, none⟩ = some (.int .u32 (dg (x) 4)) ∧ w'.cell? ⟨g, 5, none⟩ = some (.int .u32 (dg (x) 5)) ∧ w'.cell? ⟨g, 6, none⟩ = some (.int .u32 (dg (x) 6)) ∧ w'.cell? ⟨g, 7, none⟩ = some (.int .u32 (dg (x) 7)) ∧ w'.cell? ⟨g + 1, 0, none⟩ = some (.int .u32 (dg (y) 0)) ∧ w'.cell? ⟨g + 1, 1, none⟩ = some (.int .u32 (dg (y) 1)) ∧ w'.cell? ⟨g + 1, 2, none⟩ = some (.int .u32 (dg (y) 2)) ∧ w'.cell? ⟨g + 1, 3, none⟩ = some (.int .u32 (dg (y) 3)) ∧ w'.cell? ⟨g + 1, 4, none⟩ = some (.int .u32 (dg (y) 4)) ∧ w'.cell? ⟨g + 1, 5, none⟩ = some (.int .u32 (dg (y) 5)) ∧ w'.cell? ⟨g + 1, 6, none⟩ = some (.int .u32 (dg (y) 6)) ∧ w'.cell? ⟨g + 1, 7, none⟩ = some (.int .u32 (dg (y) 7)) := by
  obtain ⟨h0, c0, c1, c2, c3, c4, c5, c6, c7, d0, d1, d2, d3, d4, d5, d6, d7⟩ := h
  obtain ⟨hc, _⟩ := bcell hb
  have hs := hb.size
  have hg : g < w.heap.size := by omega
  exact ⟨by omega, (hc _ _ hg).trans c0, (hc _ _ hg).trans c1, (hc _ _ hg).trans c2, (hc _ _ hg).trans c3, (hc _ _ hg).trans c4, (hc _ _ hg).trans c5, (hc _ _ hg).trans c6, (hc _ _ hg).trans c7,
    (hc _ _ h0).trans d0, (hc _ _ h0).trans d1, (hc _ _ h0).trans d2, (hc _ _ h0).trans d3, (hc _ _ h0).trans d4, (hc _ _ h0).trans d5, (hc _ _ h0).trans d6, (hc _ _ h0).trans d7⟩

set_option maxRecDepth 10000 in
set_option maxHeartbeats 2000000 in
theorem refLess_any (x y : Int) (w : World) :
    Calls Try.prog 22 #[.agg (bigC x), .agg (bigC y)] w fun e w' => e = .returned (.bool (decide (sm x < sm y))) ∧ Below w.heap.size w w' := by
  have b0 := bbox_new w x
  have b1 := bbox_new (w.alloc (.cells (bigC x) 30)) y
  simp only [World.size_alloc] at b1
  have B0 := Lib.hid (World.rowIs.alloc b0 (.cells (bigC y) 30))
  have B1 := Lib.hid b1
  have HB := Lib.hid (below_alloc2 w (.cells (bigC x) 30) (.cells (bigC y) 30))
  have HZ : w.heap.size + 1 < ((w.alloc (.cells (bigC x) 30)).alloc (.cells (bigC y) 30)).heap.size := by simp
  clear b0 b1
  go_enter Try.func22, Try.ntmps22
  go_wp2_with fail
  generalize (w.alloc (.cells (bigC x) 30)).alloc (.cells (bigC y) 30) = wc at *
  obtain ⟨c0, c1, c2, c3, c4, c5, c6, c7⟩ := bbox_cells B0.out
  obtain ⟨d0, d1, d2, d3, d4, d5, d6, d7⟩ := bbox_cells B1.out
  have HD := Lib.hid (Below.refl wc.heap.size wc)
  by_cases hs : decide (sm x < 0) = decide (sm y < 0)
  · have hq : (decide (sm x < 0) == decide (sm y < 0)) = true := beq_iff_eq.2 hs
    have HS := Lib.hid hs
    clear hs
    go_region_held3 (fun w' => w.heap.size + 1 < w'.heap.size ∧ w'.cell? ⟨w.heap.size, 0, none⟩ = some (.int .u32 (dg (x) 0)) ∧ w'.cell? ⟨w.heap.size, 1, none⟩ = some (.int .u32 (dg (x) 1)) ∧ w'.cell? ⟨w.heap.size, 2, none⟩ = some (.int .u32 (dg (x) 2)) ∧ w'.cell? ⟨w.heap.size, 3, none⟩ = some (.int .u32 (dg (x) 3)) ∧ w'.cell? ⟨w.heap.size, 4, none⟩ = some (.int .u32 (dg (x) 4)) ∧ w'.cell? ⟨w.heap.size, 5, none⟩ = some (.int .u32 (dg (x) 5)) ∧ w'.cell? ⟨w.heap.size, 6, none⟩ = some (.int .u32 (dg (x) 6)) ∧ w'.cell? ⟨w.heap.size, 7, none⟩ = some (.int .u32 (dg (x) 7)) ∧ w'.cell? ⟨w.heap.size + 1, 0, none⟩ = some (.int .u32 (dg (y) 0)) ∧ w'.cell? ⟨w.heap.size + 1, 1, none⟩ = some (.int .u32 (dg (y) 1)) ∧ w'.cell? ⟨w.heap.size + 1, 2, none⟩ = some (.int .u32 (dg (y) 2)) ∧ w'.cell? ⟨w.heap.size + 1, 3, none⟩ = some (.int .u32 (dg (y) 3)) ∧ w'.cell? ⟨w.heap.size + 1, 4, none⟩ = some (.int .u32 (dg (y) 4)) ∧ w'.cell? ⟨w.heap.size + 1, 5, none⟩ = some (.int .u32 (dg (y) 5)) ∧ w'.cell? ⟨w.heap.size + 1, 6, none⟩ = some (.int .u32 (dg (y) 6)) ∧ w'.cell? ⟨w.heap.size + 1, 7, none⟩ = some (.int .u32 (dg (y) 7)))
      (first | go_keep | (refine held16 ?_ hbv; assumption))
      (first
        | (go_at_call 33; refine (refMinus_ex _ _).mono ?_; rintro e wv ⟨rfl, hbv⟩; have HD := Lib.hid (by first | exact HD.out.trans (hbv.mono HD.out.size) | exact HD.out.drew.trans (hbv.mono HD.out.size) : Below wc.heap.size wc wv)))
    all_goals
      have X := Lib.hid (bbox_on B0.out HD.out)
      have Y := Lib.hid (bbox_on B1.out HD.out)
      have HW := Lib.hid (HB.out.trans (HD.out.mono HB.out.size))
      clear c0 c1 c2 c3 c4 c5 c6 c7 d0 d1 d2 d3 d4 d5 d6 d7 B0 B1 HD HB HZ hq
      go_wp2
      go_loopw [5] (fun i wr => ∃ k : Int, -1 ≤ k ∧ k ≤ 7 ∧ i = .int .i64 k ∧ Hid (un x / 65536 ^ (k + 1).toNat = un y / 65536 ^ (k + 1).toNat) ∧ Hid (BBox wr w.heap.size x) ∧ Hid (BBox wr (w.heap.size + 1) y) ∧ Hid (Below w.heap.size w wr)) (fun i _ => (intOf i + 1).toNat)
      case atStart => exact ⟨7, by omega, by omega, rfl, Lib.hid (less_top x y), X, Y, HW⟩
      case round =>
        obtain ⟨k, hk0, hk1, rfl, HU, X, Y, HW⟩ := hrel
        by_cases h0 : 0 ≤ k
        · obtain ⟨m, rfl⟩ := Int.eq_ofNat_of_zero_le h0
          rw [show ((m : Int) + 1).toNat = m + 1 from by omega] at HU
          have hm : m < 8 := by omega
          have c0 := X.out.cell (i := m) (by omega)
          have c1 := Y.out.cell (i := m) (by omega)
          by_cases hd : dg x m = dg y m
          · have hU2 := Lib.hid (less_step x y m hm HU.out hd)
            have e1 : (dg x m != dg y m) = false := by rw [hd]; simp
            clear hd HU
            go_wp2
            go_quiet (fail)
            go_wp2
            refine ⟨⟨(m : Int) - 1, by omega, by omega, rfl, ?_, Lib.hid (show BBox (World.drewN _ _) _ _ from X.out), Lib.hid (show BBox (World.drewN _ _) _ _ from Y.out), Lib.hid (below_drewN HW.out _)⟩, by simp [intOf]⟩
            rw [show ((m : Int) - 1 + 1).toNat = m from by omega]; exact hU2
          · have hL := Lib.hid (less_at x y m hm HS.out HU.out hd)
            have e1 : (dg x m != dg y m) = true := by simpa using hd
            clear hd HU
            go_wp2
            go_quiet (fail)
            go_wp2
            go_quiet (fail)
            go_wp2
            go_ret
            exact ⟨ret_bool hL.out, below_drewN (below_drewN HW.out _) _⟩
        · have : k = -1 := by omega
          subst this
          have hE := Lib.hid (less_end x y HU.out)
          clear HU hk0 hk1 h0
          go_wp2
          go_ret
          exact ⟨ret_bool hE.out, HW.out⟩
  · have hq : (decide (sm x < 0) == decide (sm y < 0)) = false := beq_eq_false_iff_ne.2 hs
    have HS := Lib.hid (less_sign x y hs)
    clear hs
    go_region_held3 (fun w' => w.heap.size + 1 < w'.heap.size ∧ w'.cell? ⟨w.heap.size, 0, none⟩ = some (.int .u32 (dg (x) 0)) ∧ w'.cell? ⟨w.heap.size, 1, none⟩ = some (.int .u32 (dg (x) 1)) ∧ w'.cell? ⟨w.heap.size, 2, none⟩ = some (.int .u32 (dg (x) 2)) ∧ w'.cell? ⟨w.heap.size, 3, none⟩ = some (.int .u32 (dg (x) 3)) ∧ w'.cell? ⟨w.heap.size, 4, none⟩ = some (.int .u32 (dg (x) 4)) ∧ w'.cell? ⟨w.heap.size, 5, none⟩ = some (.int .u32 (dg (x) 5)) ∧ w'.cell? ⟨w.heap.size, 6, none⟩ = some (.int .u32 (dg (x) 6)) ∧ w'.cell? ⟨w.heap.size, 7, none⟩ = some (.int .u32 (dg (x) 7)) ∧ w'.cell? ⟨w.heap.size + 1, 0, none⟩ = some (.int .u32 (dg (y) 0)) ∧ w'.cell? ⟨w.heap.size + 1, 1, none⟩ = some (.int .u32 (dg (y) 1)) ∧ w'.cell? ⟨w.heap.size + 1, 2, none⟩ = some (.int .u32 (dg (y) 2)) ∧ w'.cell? ⟨w.heap.size + 1, 3, none⟩ = some (.int .u32 (dg (y) 3)) ∧ w'.cell? ⟨w.heap.size + 1, 4, none⟩ = some (.int .u32 (dg (y) 4)) ∧ w'.cell? ⟨w.heap.size + 1, 5, none⟩ = some (.int .u32 (dg (y) 5)) ∧ w'.cell? ⟨w.heap.size + 1, 6, none⟩ = some (.int .u32 (dg (y) 6)) ∧ w'.cell? ⟨w.heap.size + 1, 7, none⟩ = some (.int .u32 (dg (y) 7)))
      (first | go_keep | (refine held16 ?_ hbv; assumption))
      (first
        | (go_at_call 33; refine (refMinus_ex _ _).mono ?_; rintro e wv ⟨rfl, hbv⟩; have HD := Lib.hid (by first | exact HD.out.trans (hbv.mono HD.out.size) | exact HD.out.drew.trans (hbv.mono HD.out.size) : Below wc.heap.size wc wv)))
    all_goals
      go_wp2_with (go_at_call 33; refine (refMinus_ex _ _).mono ?_; rintro e wv ⟨rfl, hbv⟩; have HD := Lib.hid (HD.out.trans (hbv.mono HD.out.size)); clear hbv)
      go_ret
      exact ⟨ret_bool HS.out, HB.out.trans (HD.out.mono HB.out.size)⟩
end Go.Proofs.Ytfcllangolinaaa
