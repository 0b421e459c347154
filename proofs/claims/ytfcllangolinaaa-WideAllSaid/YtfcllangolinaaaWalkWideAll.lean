/- The walk of WideAll. -/
import Derived.Test.YtfcllangolinaaaWalkWideLaws
import Derived.Test.YtfcllangolinaaaWalkWideQuo
import Derived.Deep.CutBlock
namespace Go.Proofs.Ytfcllangolinaaa
open Go Go.RowKit

theorem same_ex (z : Int) (w : World) :
    Calls Try.prog 19 #[.agg #[.int .i64 (hiOf z), .int .u64 (loOf z)], .agg #[.int .u32 (dg (z) 0), .int .u32 (dg (z) 1), .int .u32 (dg (z) 2), .int .u32 (dg (z) 3), .int .u32 (dg (z) 4), .int .u32 (dg (z) 5), .int .u32 (dg (z) 6), .int .u32 (dg (z) 7)]] w fun e w' => e = .returned (.bool true) ∧ Below w.heap.size w w' := same_any z w
/-- Two cells of block g are stored anew. -/
def set2 (w : World) (g : Nat) (h l : Int) : World := (w.setCell ⟨g, 0, none⟩ (.int .i64 h)).setCell ⟨g, 1, none⟩ (.int .u64 l)
theorem set2_eq (w : World) (g : Nat) (h l : Int) : (w.setCell ⟨g, 0, none⟩ (.int .i64 h)).setCell ⟨g, 1, none⟩ (.int .u64 l) = set2 w g h l := rfl
/-- A slice that came in: its cells. -/
def SRead (w : World) (A : Option Addr) (n : Nat) (f : Nat → Value) : Prop := 0 < n → ∃ b off, A = some ⟨b, off, none⟩ ∧ b < w.heap.size ∧ ∀ i, i < n → w.cell? ⟨b, off + i, none⟩ = some (f i)
/-- The two numbers, each in its own form. -/
structure AInv (w0 w : World) (g : Nat) (z : Int) : Prop where
  wat : WAt w g (hiOf z) (loOf z)
  fz : w.frozen? ⟨g, 0, none⟩ = false ∧ w.frozen? ⟨g, 1, none⟩ = false
  box : BBox w (g + 1) z
  hg : w0.heap.size ≤ g
  fr : Below w0.heap.size w0 w
theorem AInv.on {w0 w w' : World} {g : Nat} {z : Int} (h : AInv w0 w g z) (hb : Below w.heap.size w w') : AInv w0 w' g z :=
  ⟨wat_on h.wat hb, wfree_on h.wat h.fz hb, bbox_on h.box hb, h.hg, h.fr.trans (hb.mono h.fr.size)⟩
theorem AInv.drew {w0 w : World} {g : Nat} {z : Int} (h : AInv w0 w g z) : AInv w0 w.drew g z := ⟨h.wat, h.fz, h.box, h.hg, h.fr.drew⟩
theorem set8_far {w : World} {g : Nat} {a : Addr} (h : a.block ≠ g) (z : Int) : (set8 w g z).cell? a = w.cell? a ∧ (set8 w g z).frozen? a = w.frozen? a := by
  have e : (set8 w g z).heap[a.block]? = w.heap[a.block]? := by
    unfold set8
    rw [heap_setCell_other _ _ _ _ h, heap_setCell_other _ _ _ _ h, heap_setCell_other _ _ _ _ h, heap_setCell_other _ _ _ _ h, heap_setCell_other _ _ _ _ h, heap_setCell_other _ _ _ _ h, heap_setCell_other _ _ _ _ h, heap_setCell_other _ _ _ _ h]
  exact ⟨World.cell?_of_block e, World.frozen?_of_block e⟩
theorem AInv.set {w0 w : World} {g : Nat} {z : Int} (h : AInv w0 w g z) (y : Int) : AInv w0 (set8 (set2 w g (hiOf y) (loOf y)) (g + 1) y) g y := by
  have hw := wat_set h.wat (hiOf y) (loOf y)
  have hf := wfree_set h.fz (.int .i64 (hiOf y)) (.int .u64 (loOf y))
  have hbx : BBox (set2 w g (hiOf y) (loOf y)) (g + 1) z := (World.rowIs.setOther (World.rowIs.setOther h.box (a := ⟨g, 0, none⟩) (by simp) _) (a := ⟨g, 1, none⟩) (by simp) _)
  have hne : ∀ i, (⟨g, i, none⟩ : Addr).block ≠ g + 1 := fun i => by simp
  refine ⟨⟨(set8_far (hne 0) y).1.trans hw.1, (set8_far (hne 1) y).1.trans hw.2⟩, ⟨(set8_far (hne 0) y).2.trans hf.1, (set8_far (hne 1) y).2.trans hf.2⟩, bbox_set8 hbx y, h.hg, ?_⟩
  exact below_set ((h.fr.setCell (p := ⟨g, 0, none⟩) h.hg _).setCell (p := ⟨g, 1, none⟩) h.hg _) (by have := h.hg; omega) y

set_option maxRecDepth 10000 in
set_option maxHeartbeats 16000000 in
theorem wideAll_walk (A0 A1 A2 : Option Addr) (n0 n1 n2 c0' c1' c2' : Nat) (F0 F2 : Nat → Int) (F1 : Nat → Bool) (w : World)
    (s0 : SRead w A0 n0 (fun i => .int .i64 (F0 i))) (s1 : SRead w A1 n1 (fun i => .bool (F1 i))) (s2 : SRead w A2 n2 (fun i => .int .i64 (F2 i)))
    (b0 : ∀ k, -9223372036854775808 ≤ F0 k ∧ F0 k ≤ 9223372036854775807) (b2 : ∀ k, -9223372036854775808 ≤ F2 k ∧ F2 k ≤ 9223372036854775807) :
    Calls Try.prog 3 #[.slice A0 n0 c0', .slice A1 n1 c1', .slice A2 n2 c2'] w fun e w' => e = .returned (.bool true) ∧ Below w.heap.size w w' := by
  have S0 := Lib.hid s0
  have S1 := Lib.hid s1
  have S2 := Lib.hid s2
  have BB0 := Lib.hid b0
  have BB2 := Lib.hid b2
  clear b0 b2
  have HB0 := Lib.hid (Below.refl w.heap.size w)
  clear s0 s1 s2
  go_enter Try.func3, Try.ntmps3
  go_wp2_with fail
  refine (begun_any _).mono ?_
  rintro e w1 ⟨rfl, hb⟩
  have HB1 := Lib.hid (HB0.out.trans (hb.mono HB0.out.size))
  clear hb
  have I0 : Hid (AInv w ((w1.alloc (.cells #[.int .i64 0, .int .u64 0] 27)).alloc (.cells #[.int .u32 0, .int .u32 0, .int .u32 0, .int .u32 0, .int .u32 0, .int .u32 0, .int .u32 0, .int .u32 0] 30)) w1.heap.size 0) := by
    have k1 := wat_new w1 0 0
    have k2 := wfree_new w1 0 0
    have k3 := row8_new (w1.alloc (.cells #[.int .i64 0, .int .u64 0] 27)) 0
    simp only [World.size_alloc] at k3
    exact Lib.hid ⟨wat_alloc k1 _, wfree_on k1 k2 (below_alloc1 _ _), row8_zero k3, HB1.out.size, (HB1.out.alloc HB1.out.size _).alloc (by simp; have := HB1.out.size; omega) _⟩
  go_wp2
  generalize (w1.alloc (.cells #[.int .i64 0, .int .u64 0] 27)).alloc (.cells #[.int .u32 0, .int .u32 0, .int .u32 0, .int .u32 0, .int .u32 0, .int .u32 0, .int .u32 0, .int .u32 0] 30) = ws0 at *
  generalize w1.heap.size = g at *
  go_loopw [10] (fun i wr => ∃ (k : Nat) (z : Int), k ≤ n0 ∧ k ≤ 20 ∧ i = .int .i64 k ∧ Hid (AInv w wr g z)) (fun i _ => 20 - (intOf i).toNat)
  case atStart => exact ⟨0, 0, by omega, by omega, rfl, I0⟩
  case round =>
    obtain ⟨k, z, hk, hk20, rfl, I⟩ := hrel
    clear I0
    have hk0 : (0 : Int) ≤ (k : Int) := by omega
    by_cases hlt : k < n0 ∧ k < 20
    · obtain ⟨hlt, hlt20⟩ := hlt
      obtain ⟨b0, o0', rfl, hb0, hc0⟩ := S0.out (by omega)
      have hk1 : (k : Int) < (n0 : Int) := by omega
      have hk2 : (k : Int) < 20 := by omega
      go_wp2_with fail
      refine wp_region_par 14 [.agg #[.int .i64 (hiOf (z)), .int .u64 (loOf (z))], .slice (some ⟨b0, o0', none⟩) n0 c0', .int .i64 (k : Int), .pointer (some ⟨b0, o0' + k, none⟩), .int .i64 (F0 k), .agg #[.int .i64 (hiOf (F0 k)), .int .u64 (loOf (F0 k))], .agg #[.int .i64 (hiOf (z + F0 k)), .int .u64 (loOf (z + F0 k))], .agg #[.int .u32 (dg (z) 0), .int .u32 (dg (z) 1), .int .u32 (dg (z) 2), .int .u32 (dg (z) 3), .int .u32 (dg (z) 4), .int .u32 (dg (z) 5), .int .u32 (dg (z) 6), .int .u32 (dg (z) 7)], .slice (some ⟨b0, o0', none⟩) n0 c0', .int .i64 (k : Int), .pointer (some ⟨b0, o0' + k, none⟩), .int .i64 (F0 k), .agg #[.int .u32 (dg (F0 k) 0), .int .u32 (dg (F0 k) 1), .int .u32 (dg (F0 k) 2), .int .u32 (dg (F0 k) 3), .int .u32 (dg (F0 k) 4), .int .u32 (dg (F0 k) 5), .int .u32 (dg (F0 k) 6), .int .u32 (dg (F0 k) 7)], .agg #[.int .u32 (dg (z + F0 k) 0), .int .u32 (dg (z + F0 k) 1), .int .u32 (dg (z + F0 k) 2), .int .u32 (dg (z + F0 k) 3), .int .u32 (dg (z + F0 k) 4), .int .u32 (dg (z + F0 k) 5), .int .u32 (dg (z + F0 k) 6), .int .u32 (dg (z + F0 k) 7)]] (fun w' => AInv w w' g (z)) ?A1 ?hm1 ?hB1 ?hA1 I.out.drew ?hop1 ?hT1
      case hm1 => kernel_rfl
      case hB1 => kernel_rfl
      case hA1 =>
        simp only [putA, dstAt, Act.put, List.getElem?_toArray, List.getElem?_cons_zero, List.getElem?_cons_succ, Option.bind_some, List.setIfInBounds_toArray, List.set_cons_zero, List.set_cons_succ, List.getD_cons_zero, List.getD_cons_succ]
        rfl
      case hop1 =>
        simp only [List.take_succ_cons, List.take_zero, GiveAll, and_true]
        refine ⟨fun w' hR => ?_, fun w' hR => ?_, fun w' hR => ?_, fun w' hR => ?_, fun w' hR => ?_, fun w' hR => ?_, fun w' hR => ?_, fun w' hR => ?_, fun w' hR => ?_, fun w' hR => ?_, fun w' hR => ?_, fun w' hR => ?_, fun w' hR => ?_, fun w' hR => ?_⟩
        · have HR := Lib.hid hR
          obtain ⟨c0, c1⟩ := hR.wat
          clear hR
          simp only [Gives]
          go_simp
          exact HR.out
        · have HR := Lib.hid hR
          clear hR
          simp only [Gives]
          go_simp
          exact HR.out
        · have HR := Lib.hid hR
          clear hR
          simp only [Gives]
          go_simp
          exact HR.out
        · have HR := Lib.hid hR
          clear hR
          simp only [Gives]
          go_simp
          exact HR.out
        · have HR := Lib.hid hR
          have cx := (hR.fr.cell (p := ⟨b0, o0' + k, none⟩) hb0).trans (hc0 k (by omega))
          clear hR
          simp only [Gives]
          go_simp
          exact HR.out
        · have HR := Lib.hid hR
          clear hR
          simp only [Gives]
          go_simp
          exact (of_any (F0 k) w' (BB0.out k).1 (BB0.out k).2).mono (fun e w'' ⟨he, hb⟩ => ⟨he, HR.out.on hb⟩)
        · have HR := Lib.hid hR
          clear hR
          simp only [Gives]
          go_simp
          exact (add_any z (F0 k) w').mono (fun e w'' ⟨he, hb⟩ => ⟨he, HR.out.on hb⟩)
        · have HR := Lib.hid hR
          obtain ⟨o0, o1, o2, o3, o4, o5, o6, o7⟩ := bbox_cells hR.box
          clear hR
          simp only [Gives]
          go_simp
          exact HR.out
        · have HR := Lib.hid hR
          clear hR
          simp only [Gives]
          go_simp
          exact HR.out
        · have HR := Lib.hid hR
          clear hR
          simp only [Gives]
          go_simp
          exact HR.out
        · have HR := Lib.hid hR
          clear hR
          simp only [Gives]
          go_simp
          exact HR.out
        · have HR := Lib.hid hR
          have cx := (hR.fr.cell (p := ⟨b0, o0' + k, none⟩) hb0).trans (hc0 k (by omega))
          clear hR
          simp only [Gives]
          go_simp
          exact HR.out
        · have HR := Lib.hid hR
          clear hR
          simp only [Gives]
          go_simp
          exact (refOf_ex (F0 k) w' (BB0.out k).1 (BB0.out k).2).mono (fun e w'' ⟨he, hb⟩ => ⟨he, HR.out.on hb⟩)
        · have HR := Lib.hid hR
          clear hR
          simp only [Gives]
          go_simp
          exact (refAdd_ex z (F0 k) w').mono (fun e w'' ⟨he, hb⟩ => ⟨he, HR.out.on hb⟩)
      case hT1 =>
        intro w' hR
        simp only [List.drop_succ_cons, List.drop_zero]
        clear I
        obtain ⟨c0, c1⟩ := hR.wat
        obtain ⟨f0', f1'⟩ := hR.fz
        obtain ⟨o0, o1, o2, o3, o4, o5, o6, o7⟩ := bbox_cells hR.box
        obtain ⟨g0, g1, g2, g3, g4, g5, g6, g7⟩ := bbox_free hR.box
        have IR := Lib.hid hR
        clear hR
        go_upto_region 10 with fail
        rw [set2_eq w' g (hiOf (z + F0 k)) (loOf (z + F0 k)), set8_eq (set2 w' g (hiOf (z + F0 k)) (loOf (z + F0 k))) (g + 1) (z + F0 k)]
        have I := Lib.hid (IR.out.set (z + F0 k))
        clear IR c0 c1 f0' f1' o0 o1 o2 o3 o4 o5 o6 o7 g0 g1 g2 g3 g4 g5 g6 g7
        generalize set8 (set2 w' g (hiOf (z + F0 k)) (loOf (z + F0 k))) (g + 1) (z + F0 k) = wo at *
        generalize z + F0 k = z1 at *
        have HBX := Lib.hid hb0
        rcases (by omega : n1 ≤ k ∨ k < n1) with h1 | h1
        · have d1 : decide ((k : Int) < (n1 : Int)) = false := decide_eq_false (by omega)
          go_upto_region 12 with fail
          generalize wo = wm at *
          generalize z1 = zm at *
          clear d1
          rcases (by omega : n2 ≤ k ∨ (k < n2 ∧ k % 4 ≠ 3) ∨ (k < n2 ∧ k % 4 = 3)) with h2 | ⟨h2, h3⟩ | ⟨h2, h3⟩
          · have d2 : decide ((k : Int) < (n2 : Int)) = false := decide_eq_false (by omega)
            go_upto_region 14 with fail
            generalize wm = wl at *
            generalize zm = zl at *
            clear d2
            obtain ⟨c0, c1⟩ := I.out.wat
            obtain ⟨o0, o1, o2, o3, o4, o5, o6, o7⟩ := bbox_cells I.out.box
            go_wp2_with fail
            refine (same_ex zl _).mono ?_
            rintro e ws ⟨rfl, hb⟩
            have I2 := Lib.hid (I.out.on hb)
            clear hb I c0 c1 o0 o1 o2 o3 o4 o5 o6 o7
            go_wp2
            exact ⟨⟨k + 1, zl, by omega, by omega, by go_num, I2⟩, by simp [intOf]; omega⟩
          · have d2 : decide ((k : Int) < (n2 : Int)) = true := decide_eq_true (by omega)
            have d3 : ((k : Int) % 4 == 3) = false := beq_eq_false_iff_ne.2 (by omega)
            go_upto_region 14 with fail
            generalize wm = wl at *
            generalize zm = zl at *
            clear d2 d3
            obtain ⟨c0, c1⟩ := I.out.wat
            obtain ⟨o0, o1, o2, o3, o4, o5, o6, o7⟩ := bbox_cells I.out.box
            go_wp2_with fail
            refine (same_ex zl _).mono ?_
            rintro e ws ⟨rfl, hb⟩
            have I2 := Lib.hid (I.out.on hb)
            clear hb I c0 c1 o0 o1 o2 o3 o4 o5 o6 o7
            go_wp2
            exact ⟨⟨k + 1, zl, by omega, by omega, by go_num, I2⟩, by simp [intOf]; omega⟩
          · obtain ⟨b2, o2', rfl, hb2, hc2⟩ := S2.out (by omega)
            have d2 : decide ((k : Int) < (n2 : Int)) = true := decide_eq_true (by omega)
            have d3 : ((k : Int) % 4 == 3) = true := beq_iff_eq.2 (by omega)
            have h2' : (k : Int) < (n2 : Int) := by omega
            go_wp2_with fail
            clear d2 d3
            refine wp_region_par 12 [.agg #[.int .i64 (hiOf (zm)), .int .u64 (loOf (zm))], .slice (some ⟨b2, o2', none⟩) n2 c2', .int .i64 (k : Int), .pointer (some ⟨b2, o2' + k, none⟩), .int .i64 (F2 k), .agg #[.int .i64 (hiOf (zm * F2 k)), .int .u64 (loOf (zm * F2 k))], .agg #[.int .u32 (dg (zm) 0), .int .u32 (dg (zm) 1), .int .u32 (dg (zm) 2), .int .u32 (dg (zm) 3), .int .u32 (dg (zm) 4), .int .u32 (dg (zm) 5), .int .u32 (dg (zm) 6), .int .u32 (dg (zm) 7)], .slice (some ⟨b2, o2', none⟩) n2 c2', .int .i64 (k : Int), .pointer (some ⟨b2, o2' + k, none⟩), .int .i64 (F2 k), .agg #[.int .u32 (dg (zm * F2 k) 0), .int .u32 (dg (zm * F2 k) 1), .int .u32 (dg (zm * F2 k) 2), .int .u32 (dg (zm * F2 k) 3), .int .u32 (dg (zm * F2 k) 4), .int .u32 (dg (zm * F2 k) 5), .int .u32 (dg (zm * F2 k) 6), .int .u32 (dg (zm * F2 k) 7)]] (fun w' => AInv w w' g (zm)) ?A153 ?hm153 ?hB153 ?hA153 I.out.drew ?hop153 ?hT153
            case hm153 => kernel_rfl
            case hB153 => kernel_rfl
            case hA153 =>
              simp only [putA, dstAt, Act.put, List.getElem?_toArray, List.getElem?_cons_zero, List.getElem?_cons_succ, Option.bind_some, List.setIfInBounds_toArray, List.set_cons_zero, List.set_cons_succ, List.getD_cons_zero, List.getD_cons_succ]
              rfl
            case hop153 =>
              simp only [List.take_succ_cons, List.take_zero, GiveAll, and_true]
              refine ⟨fun w' hR => ?_, fun w' hR => ?_, fun w' hR => ?_, fun w' hR => ?_, fun w' hR => ?_, fun w' hR => ?_, fun w' hR => ?_, fun w' hR => ?_, fun w' hR => ?_, fun w' hR => ?_, fun w' hR => ?_, fun w' hR => ?_⟩
              · have HR := Lib.hid hR
                obtain ⟨c0, c1⟩ := hR.wat
                clear hR
                simp only [Gives]
                go_simp
                exact HR.out
              · have HR := Lib.hid hR
                clear hR
                simp only [Gives]
                go_simp
                exact HR.out
              · have HR := Lib.hid hR
                clear hR
                simp only [Gives]
                go_simp
                exact HR.out
              · have HR := Lib.hid hR
                clear hR
                simp only [Gives]
                go_simp
                exact HR.out
              · have HR := Lib.hid hR
                have cx := (hR.fr.cell (p := ⟨b2, o2' + k, none⟩) hb2).trans (hc2 k (by omega))
                clear hR
                simp only [Gives]
                go_simp
                exact HR.out
              · have HR := Lib.hid hR
                clear hR
                simp only [Gives]
                go_simp
                exact (times_any zm (F2 k) w' (BB2.out k).1 (BB2.out k).2).mono (fun e w'' ⟨he, hb⟩ => ⟨he, HR.out.on hb⟩)
              · have HR := Lib.hid hR
                obtain ⟨o0, o1, o2, o3, o4, o5, o6, o7⟩ := bbox_cells hR.box
                clear hR
                simp only [Gives]
                go_simp
                exact HR.out
              · have HR := Lib.hid hR
                clear hR
                simp only [Gives]
                go_simp
                exact HR.out
              · have HR := Lib.hid hR
                clear hR
                simp only [Gives]
                go_simp
                exact HR.out
              · have HR := Lib.hid hR
                clear hR
                simp only [Gives]
                go_simp
                exact HR.out
              · have HR := Lib.hid hR
                have cx := (hR.fr.cell (p := ⟨b2, o2' + k, none⟩) hb2).trans (hc2 k (by omega))
                clear hR
                simp only [Gives]
                go_simp
                exact HR.out
              · have HR := Lib.hid hR
                clear hR
                simp only [Gives]
                go_simp
                exact (refTimes_ex zm (F2 k) w' (BB2.out k).1 (BB2.out k).2).mono (fun e w'' ⟨he, hb⟩ => ⟨he, HR.out.on hb⟩)
            case hT153 =>
              intro w' hR
              simp only [List.drop_succ_cons, List.drop_zero]
              clear I
              obtain ⟨c0, c1⟩ := hR.wat
              obtain ⟨f0', f1'⟩ := hR.fz
              obtain ⟨o0, o1, o2, o3, o4, o5, o6, o7⟩ := bbox_cells hR.box
              obtain ⟨g0, g1, g2, g3, g4, g5, g6, g7⟩ := bbox_free hR.box
              have IR := Lib.hid hR
              clear hR
              go_upto_region 14 with fail
              rw [set2_eq w' g (hiOf (zm * F2 k)) (loOf (zm * F2 k)), set8_eq (set2 w' g (hiOf (zm * F2 k)) (loOf (zm * F2 k))) (g + 1) (zm * F2 k)]
              have I := Lib.hid (IR.out.set (zm * F2 k))
              clear IR c0 c1 f0' f1' o0 o1 o2 o3 o4 o5 o6 o7 g0 g1 g2 g3 g4 g5 g6 g7
              generalize set8 (set2 w' g (hiOf (zm * F2 k)) (loOf (zm * F2 k))) (g + 1) (zm * F2 k) = wl at *
              generalize zm * F2 k = zl at *
              obtain ⟨c0, c1⟩ := I.out.wat
              obtain ⟨o0, o1, o2, o3, o4, o5, o6, o7⟩ := bbox_cells I.out.box
              go_wp2_with fail
              refine (same_ex zl _).mono ?_
              rintro e ws ⟨rfl, hb⟩
              have I2 := Lib.hid (I.out.on hb)
              clear hb I c0 c1 o0 o1 o2 o3 o4 o5 o6 o7
              go_wp2
              exact ⟨⟨k + 1, zl, by omega, by omega, by go_num, I2⟩, by simp [intOf]; omega⟩
        · obtain ⟨b1, o1', rfl, hb1, hc1⟩ := S1.out (by omega)
          have cx : wo.cell? ⟨b1, o1' + k, none⟩ = some (.bool (F1 k)) := (I.out.fr.cell (p := ⟨b1, o1' + k, none⟩) hb1).trans (hc1 k h1)
          have d1 : decide ((k : Int) < (n1 : Int)) = true := decide_eq_true (by omega)
          have h1' : (k : Int) < (n1 : Int) := by omega
          cases hf : F1 k
          · rw [hf] at cx
            go_upto_region 12 with fail
            generalize wo = wm at *
            generalize z1 = zm at *
            clear d1 cx hc1
            rcases (by omega : n2 ≤ k ∨ (k < n2 ∧ k % 4 ≠ 3) ∨ (k < n2 ∧ k % 4 = 3)) with h2 | ⟨h2, h3⟩ | ⟨h2, h3⟩
            · have d2 : decide ((k : Int) < (n2 : Int)) = false := decide_eq_false (by omega)
              go_upto_region 14 with fail
              generalize wm = wl at *
              generalize zm = zl at *
              clear d2
              obtain ⟨c0, c1⟩ := I.out.wat
              obtain ⟨o0, o1, o2, o3, o4, o5, o6, o7⟩ := bbox_cells I.out.box
              go_wp2_with fail
              refine (same_ex zl _).mono ?_
              rintro e ws ⟨rfl, hb⟩
              have I2 := Lib.hid (I.out.on hb)
              clear hb I c0 c1 o0 o1 o2 o3 o4 o5 o6 o7
              go_wp2
              exact ⟨⟨k + 1, zl, by omega, by omega, by go_num, I2⟩, by simp [intOf]; omega⟩
            · have d2 : decide ((k : Int) < (n2 : Int)) = true := decide_eq_true (by omega)
              have d3 : ((k : Int) % 4 == 3) = false := beq_eq_false_iff_ne.2 (by omega)
              go_upto_region 14 with fail
              generalize wm = wl at *
              generalize zm = zl at *
              clear d2 d3
              obtain ⟨c0, c1⟩ := I.out.wat
              obtain ⟨o0, o1, o2, o3, o4, o5, o6, o7⟩ := bbox_cells I.out.box
              go_wp2_with fail
              refine (same_ex zl _).mono ?_
              rintro e ws ⟨rfl, hb⟩
              have I2 := Lib.hid (I.out.on hb)
              clear hb I c0 c1 o0 o1 o2 o3 o4 o5 o6 o7
              go_wp2
              exact ⟨⟨k + 1, zl, by omega, by omega, by go_num, I2⟩, by simp [intOf]; omega⟩
            · obtain ⟨b2, o2', rfl, hb2, hc2⟩ := S2.out (by omega)
              have d2 : decide ((k : Int) < (n2 : Int)) = true := decide_eq_true (by omega)
              have d3 : ((k : Int) % 4 == 3) = true := beq_iff_eq.2 (by omega)
              have h2' : (k : Int) < (n2 : Int) := by omega
              go_wp2_with fail
              clear d2 d3
              refine wp_region_par 12 [.agg #[.int .i64 (hiOf (zm)), .int .u64 (loOf (zm))], .slice (some ⟨b2, o2', none⟩) n2 c2', .int .i64 (k : Int), .pointer (some ⟨b2, o2' + k, none⟩), .int .i64 (F2 k), .agg #[.int .i64 (hiOf (zm * F2 k)), .int .u64 (loOf (zm * F2 k))], .agg #[.int .u32 (dg (zm) 0), .int .u32 (dg (zm) 1), .int .u32 (dg (zm) 2), .int .u32 (dg (zm) 3), .int .u32 (dg (zm) 4), .int .u32 (dg (zm) 5), .int .u32 (dg (zm) 6), .int .u32 (dg (zm) 7)], .slice (some ⟨b2, o2', none⟩) n2 c2', .int .i64 (k : Int), .pointer (some ⟨b2, o2' + k, none⟩), .int .i64 (F2 k), .agg #[.int .u32 (dg (zm * F2 k) 0), .int .u32 (dg (zm * F2 k) 1), .int .u32 (dg (zm * F2 k) 2), .int .u32 (dg (zm * F2 k) 3), .int .u32 (dg (zm * F2 k) 4), .int .u32 (dg (zm * F2 k) 5), .int .u32 (dg (zm * F2 k) 6), .int .u32 (dg (zm * F2 k) 7)]] (fun w' => AInv w w' g (zm)) ?A203 ?hm203 ?hB203 ?hA203 I.out.drew ?hop203 ?hT203
              case hm203 => kernel_rfl
              case hB203 => kernel_rfl
              case hA203 =>
                simp only [putA, dstAt, Act.put, List.getElem?_toArray, List.getElem?_cons_zero, List.getElem?_cons_succ, Option.bind_some, List.setIfInBounds_toArray, List.set_cons_zero, List.set_cons_succ, List.getD_cons_zero, List.getD_cons_succ]
                rfl
              case hop203 =>
                simp only [List.take_succ_cons, List.take_zero, GiveAll, and_true]
                refine ⟨fun w' hR => ?_, fun w' hR => ?_, fun w' hR => ?_, fun w' hR => ?_, fun w' hR => ?_, fun w' hR => ?_, fun w' hR => ?_, fun w' hR => ?_, fun w' hR => ?_, fun w' hR => ?_, fun w' hR => ?_, fun w' hR => ?_⟩
                · have HR := Lib.hid hR
                  obtain ⟨c0, c1⟩ := hR.wat
                  clear hR
                  simp only [Gives]
                  go_simp
                  exact HR.out
                · have HR := Lib.hid hR
                  clear hR
                  simp only [Gives]
                  go_simp
                  exact HR.out
                · have HR := Lib.hid hR
                  clear hR
                  simp only [Gives]
                  go_simp
                  exact HR.out
                · have HR := Lib.hid hR
                  clear hR
                  simp only [Gives]
                  go_simp
                  exact HR.out
                · have HR := Lib.hid hR
                  have cx := (hR.fr.cell (p := ⟨b2, o2' + k, none⟩) hb2).trans (hc2 k (by omega))
                  clear hR
                  simp only [Gives]
                  go_simp
                  exact HR.out
                · have HR := Lib.hid hR
                  clear hR
                  simp only [Gives]
                  go_simp
                  exact (times_any zm (F2 k) w' (BB2.out k).1 (BB2.out k).2).mono (fun e w'' ⟨he, hb⟩ => ⟨he, HR.out.on hb⟩)
                · have HR := Lib.hid hR
                  obtain ⟨o0, o1, o2, o3, o4, o5, o6, o7⟩ := bbox_cells hR.box
                  clear hR
                  simp only [Gives]
                  go_simp
                  exact HR.out
                · have HR := Lib.hid hR
                  clear hR
                  simp only [Gives]
                  go_simp
                  exact HR.out
                · have HR := Lib.hid hR
                  clear hR
                  simp only [Gives]
                  go_simp
                  exact HR.out
                · have HR := Lib.hid hR
                  clear hR
                  simp only [Gives]
                  go_simp
                  exact HR.out
                · have HR := Lib.hid hR
                  have cx := (hR.fr.cell (p := ⟨b2, o2' + k, none⟩) hb2).trans (hc2 k (by omega))
                  clear hR
                  simp only [Gives]
                  go_simp
                  exact HR.out
                · have HR := Lib.hid hR
                  clear hR
                  simp only [Gives]
                  go_simp
                  exact (refTimes_ex zm (F2 k) w' (BB2.out k).1 (BB2.out k).2).mono (fun e w'' ⟨he, hb⟩ => ⟨he, HR.out.on hb⟩)
              case hT203 =>
                intro w' hR
                simp only [List.drop_succ_cons, List.drop_zero]
                clear I
                obtain ⟨c0, c1⟩ := hR.wat
                obtain ⟨f0', f1'⟩ := hR.fz
                obtain ⟨o0, o1, o2, o3, o4, o5, o6, o7⟩ := bbox_cells hR.box
                obtain ⟨g0, g1, g2, g3, g4, g5, g6, g7⟩ := bbox_free hR.box
                have IR := Lib.hid hR
                clear hR
                go_upto_region 14 with fail
                rw [set2_eq w' g (hiOf (zm * F2 k)) (loOf (zm * F2 k)), set8_eq (set2 w' g (hiOf (zm * F2 k)) (loOf (zm * F2 k))) (g + 1) (zm * F2 k)]
                have I := Lib.hid (IR.out.set (zm * F2 k))
                clear IR c0 c1 f0' f1' o0 o1 o2 o3 o4 o5 o6 o7 g0 g1 g2 g3 g4 g5 g6 g7
                generalize set8 (set2 w' g (hiOf (zm * F2 k)) (loOf (zm * F2 k))) (g + 1) (zm * F2 k) = wl at *
                generalize zm * F2 k = zl at *
                obtain ⟨c0, c1⟩ := I.out.wat
                obtain ⟨o0, o1, o2, o3, o4, o5, o6, o7⟩ := bbox_cells I.out.box
                go_wp2_with fail
                refine (same_ex zl _).mono ?_
                rintro e ws ⟨rfl, hb⟩
                have I2 := Lib.hid (I.out.on hb)
                clear hb I c0 c1 o0 o1 o2 o3 o4 o5 o6 o7
                go_wp2
                exact ⟨⟨k + 1, zl, by omega, by omega, by go_num, I2⟩, by simp [intOf]; omega⟩
          · rw [hf] at cx
            go_wp2_with fail
            clear d1 cx hc1
            refine wp_region_par 4 [.agg #[.int .i64 (hiOf (z1)), .int .u64 (loOf (z1))], .agg #[.int .i64 (hiOf (-z1)), .int .u64 (loOf (-z1))], .agg #[.int .u32 (dg (z1) 0), .int .u32 (dg (z1) 1), .int .u32 (dg (z1) 2), .int .u32 (dg (z1) 3), .int .u32 (dg (z1) 4), .int .u32 (dg (z1) 5), .int .u32 (dg (z1) 6), .int .u32 (dg (z1) 7)], .agg #[.int .u32 (dg (-z1) 0), .int .u32 (dg (-z1) 1), .int .u32 (dg (-z1) 2), .int .u32 (dg (-z1) 3), .int .u32 (dg (-z1) 4), .int .u32 (dg (-z1) 5), .int .u32 (dg (-z1) 6), .int .u32 (dg (-z1) 7)]] (fun w' => AInv w w' g (z1)) ?A2 ?hm2 ?hB2 ?hA2 I.out.drew ?hop2 ?hT2
            case hm2 => kernel_rfl
            case hB2 => kernel_rfl
            case hA2 =>
              simp only [putA, dstAt, Act.put, List.getElem?_toArray, List.getElem?_cons_zero, List.getElem?_cons_succ, Option.bind_some, List.setIfInBounds_toArray, List.set_cons_zero, List.set_cons_succ, List.getD_cons_zero, List.getD_cons_succ]
              rfl
            case hop2 =>
              simp only [List.take_succ_cons, List.take_zero, GiveAll, and_true]
              refine ⟨fun w' hR => ?_, fun w' hR => ?_, fun w' hR => ?_, fun w' hR => ?_⟩
              · have HR := Lib.hid hR
                obtain ⟨c0, c1⟩ := hR.wat
                clear hR
                simp only [Gives]
                go_simp
                exact HR.out
              · have HR := Lib.hid hR
                clear hR
                simp only [Gives]
                go_simp
                exact (neg_any z1 w').mono (fun e w'' ⟨he, hb⟩ => ⟨he, HR.out.on hb⟩)
              · have HR := Lib.hid hR
                obtain ⟨o0, o1, o2, o3, o4, o5, o6, o7⟩ := bbox_cells hR.box
                clear hR
                simp only [Gives]
                go_simp
                exact HR.out
              · have HR := Lib.hid hR
                clear hR
                simp only [Gives]
                go_simp
                exact (refNeg_ex z1 w').mono (fun e w'' ⟨he, hb⟩ => ⟨he, HR.out.on hb⟩)
            case hT2 =>
              intro w' hR
              simp only [List.drop_succ_cons, List.drop_zero]
              clear I
              obtain ⟨c0, c1⟩ := hR.wat
              obtain ⟨f0', f1'⟩ := hR.fz
              obtain ⟨o0, o1, o2, o3, o4, o5, o6, o7⟩ := bbox_cells hR.box
              obtain ⟨g0, g1, g2, g3, g4, g5, g6, g7⟩ := bbox_free hR.box
              have IR := Lib.hid hR
              clear hR
              go_upto_region 12 with fail
              rw [set2_eq w' g (hiOf (-z1)) (loOf (-z1)), set8_eq (set2 w' g (hiOf (-z1)) (loOf (-z1))) (g + 1) (-z1)]
              have I := Lib.hid (IR.out.set (-z1))
              clear IR c0 c1 f0' f1' o0 o1 o2 o3 o4 o5 o6 o7 g0 g1 g2 g3 g4 g5 g6 g7
              generalize set8 (set2 w' g (hiOf (-z1)) (loOf (-z1))) (g + 1) (-z1) = wm at *
              generalize -z1 = zm at *
              rcases (by omega : n2 ≤ k ∨ (k < n2 ∧ k % 4 ≠ 3) ∨ (k < n2 ∧ k % 4 = 3)) with h2 | ⟨h2, h3⟩ | ⟨h2, h3⟩
              · have d2 : decide ((k : Int) < (n2 : Int)) = false := decide_eq_false (by omega)
                go_upto_region 14 with fail
                generalize wm = wl at *
                generalize zm = zl at *
                clear d2
                obtain ⟨c0, c1⟩ := I.out.wat
                obtain ⟨o0, o1, o2, o3, o4, o5, o6, o7⟩ := bbox_cells I.out.box
                go_wp2_with fail
                refine (same_ex zl _).mono ?_
                rintro e ws ⟨rfl, hb⟩
                have I2 := Lib.hid (I.out.on hb)
                clear hb I c0 c1 o0 o1 o2 o3 o4 o5 o6 o7
                go_wp2
                exact ⟨⟨k + 1, zl, by omega, by omega, by go_num, I2⟩, by simp [intOf]; omega⟩
              · have d2 : decide ((k : Int) < (n2 : Int)) = true := decide_eq_true (by omega)
                have d3 : ((k : Int) % 4 == 3) = false := beq_eq_false_iff_ne.2 (by omega)
                go_upto_region 14 with fail
                generalize wm = wl at *
                generalize zm = zl at *
                clear d2 d3
                obtain ⟨c0, c1⟩ := I.out.wat
                obtain ⟨o0, o1, o2, o3, o4, o5, o6, o7⟩ := bbox_cells I.out.box
                go_wp2_with fail
                refine (same_ex zl _).mono ?_
                rintro e ws ⟨rfl, hb⟩
                have I2 := Lib.hid (I.out.on hb)
                clear hb I c0 c1 o0 o1 o2 o3 o4 o5 o6 o7
                go_wp2
                exact ⟨⟨k + 1, zl, by omega, by omega, by go_num, I2⟩, by simp [intOf]; omega⟩
              · obtain ⟨b2, o2', rfl, hb2, hc2⟩ := S2.out (by omega)
                have d2 : decide ((k : Int) < (n2 : Int)) = true := decide_eq_true (by omega)
                have d3 : ((k : Int) % 4 == 3) = true := beq_iff_eq.2 (by omega)
                have h2' : (k : Int) < (n2 : Int) := by omega
                go_wp2_with fail
                clear d2 d3
                refine wp_region_par 12 [.agg #[.int .i64 (hiOf (zm)), .int .u64 (loOf (zm))], .slice (some ⟨b2, o2', none⟩) n2 c2', .int .i64 (k : Int), .pointer (some ⟨b2, o2' + k, none⟩), .int .i64 (F2 k), .agg #[.int .i64 (hiOf (zm * F2 k)), .int .u64 (loOf (zm * F2 k))], .agg #[.int .u32 (dg (zm) 0), .int .u32 (dg (zm) 1), .int .u32 (dg (zm) 2), .int .u32 (dg (zm) 3), .int .u32 (dg (zm) 4), .int .u32 (dg (zm) 5), .int .u32 (dg (zm) 6), .int .u32 (dg (zm) 7)], .slice (some ⟨b2, o2', none⟩) n2 c2', .int .i64 (k : Int), .pointer (some ⟨b2, o2' + k, none⟩), .int .i64 (F2 k), .agg #[.int .u32 (dg (zm * F2 k) 0), .int .u32 (dg (zm * F2 k) 1), .int .u32 (dg (zm * F2 k) 2), .int .u32 (dg (zm * F2 k) 3), .int .u32 (dg (zm * F2 k) 4), .int .u32 (dg (zm * F2 k) 5), .int .u32 (dg (zm * F2 k) 6), .int .u32 (dg (zm * F2 k) 7)]] (fun w' => AInv w w' g (zm)) ?A253 ?hm253 ?hB253 ?hA253 I.out.drew ?hop253 ?hT253
                case hm253 => kernel_rfl
                case hB253 => kernel_rfl
                case hA253 =>
                  simp only [putA, dstAt, Act.put, List.getElem?_toArray, List.getElem?_cons_zero, List.getElem?_cons_succ, Option.bind_some, List.setIfInBounds_toArray, List.set_cons_zero, List.set_cons_succ, List.getD_cons_zero, List.getD_cons_succ]
                  rfl
                case hop253 =>
                  simp only [List.take_succ_cons, List.take_zero, GiveAll, and_true]
                  refine ⟨fun w' hR => ?_, fun w' hR => ?_, fun w' hR => ?_, fun w' hR => ?_, fun w' hR => ?_, fun w' hR => ?_, fun w' hR => ?_, fun w' hR => ?_, fun w' hR => ?_, fun w' hR => ?_, fun w' hR => ?_, fun w' hR => ?_⟩
                  · have HR := Lib.hid hR
                    obtain ⟨c0, c1⟩ := hR.wat
                    clear hR
                    simp only [Gives]
                    go_simp
                    exact HR.out
                  · have HR := Lib.hid hR
                    clear hR
                    simp only [Gives]
                    go_simp
                    exact HR.out
                  · have HR := Lib.hid hR
                    clear hR
                    simp only [Gives]
                    go_simp
                    exact HR.out
                  · have HR := Lib.hid hR
                    clear hR
                    simp only [Gives]
                    go_simp
                    exact HR.out
                  · have HR := Lib.hid hR
                    have cx := (hR.fr.cell (p := ⟨b2, o2' + k, none⟩) hb2).trans (hc2 k (by omega))
                    clear hR
                    simp only [Gives]
                    go_simp
                    exact HR.out
                  · have HR := Lib.hid hR
                    clear hR
                    simp only [Gives]
                    go_simp
                    exact (times_any zm (F2 k) w' (BB2.out k).1 (BB2.out k).2).mono (fun e w'' ⟨he, hb⟩ => ⟨he, HR.out.on hb⟩)
                  · have HR := Lib.hid hR
                    obtain ⟨o0, o1, o2, o3, o4, o5, o6, o7⟩ := bbox_cells hR.box
                    clear hR
                    simp only [Gives]
                    go_simp
                    exact HR.out
                  · have HR := Lib.hid hR
                    clear hR
                    simp only [Gives]
                    go_simp
                    exact HR.out
                  · have HR := Lib.hid hR
                    clear hR
                    simp only [Gives]
                    go_simp
                    exact HR.out
                  · have HR := Lib.hid hR
                    clear hR
                    simp only [Gives]
                    go_simp
                    exact HR.out
                  · have HR := Lib.hid hR
                    have cx := (hR.fr.cell (p := ⟨b2, o2' + k, none⟩) hb2).trans (hc2 k (by omega))
                    clear hR
                    simp only [Gives]
                    go_simp
                    exact HR.out
                  · have HR := Lib.hid hR
                    clear hR
                    simp only [Gives]
                    go_simp
                    exact (refTimes_ex zm (F2 k) w' (BB2.out k).1 (BB2.out k).2).mono (fun e w'' ⟨he, hb⟩ => ⟨he, HR.out.on hb⟩)
                case hT253 =>
                  intro w' hR
                  simp only [List.drop_succ_cons, List.drop_zero]
                  clear I
                  obtain ⟨c0, c1⟩ := hR.wat
                  obtain ⟨f0', f1'⟩ := hR.fz
                  obtain ⟨o0, o1, o2, o3, o4, o5, o6, o7⟩ := bbox_cells hR.box
                  obtain ⟨g0, g1, g2, g3, g4, g5, g6, g7⟩ := bbox_free hR.box
                  have IR := Lib.hid hR
                  clear hR
                  go_upto_region 14 with fail
                  rw [set2_eq w' g (hiOf (zm * F2 k)) (loOf (zm * F2 k)), set8_eq (set2 w' g (hiOf (zm * F2 k)) (loOf (zm * F2 k))) (g + 1) (zm * F2 k)]
                  have I := Lib.hid (IR.out.set (zm * F2 k))
                  clear IR c0 c1 f0' f1' o0 o1 o2 o3 o4 o5 o6 o7 g0 g1 g2 g3 g4 g5 g6 g7
                  generalize set8 (set2 w' g (hiOf (zm * F2 k)) (loOf (zm * F2 k))) (g + 1) (zm * F2 k) = wl at *
                  generalize zm * F2 k = zl at *
                  obtain ⟨c0, c1⟩ := I.out.wat
                  obtain ⟨o0, o1, o2, o3, o4, o5, o6, o7⟩ := bbox_cells I.out.box
                  go_wp2_with fail
                  refine (same_ex zl _).mono ?_
                  rintro e ws ⟨rfl, hb⟩
                  have I2 := Lib.hid (I.out.on hb)
                  clear hb I c0 c1 o0 o1 o2 o3 o4 o5 o6 o7
                  go_wp2
                  exact ⟨⟨k + 1, zl, by omega, by omega, by go_num, I2⟩, by simp [intOf]; omega⟩
    · obtain ⟨c0, c1⟩ := I.out.wat
      obtain ⟨o0, o1, o2, o3, o4, o5, o6, o7⟩ := bbox_cells I.out.box
      have HE := Lib.hid hlt
      by_cases h5 : k < n0
      · have d1 : decide ((k : Int) < (n0 : Int)) = true := decide_eq_true (by omega)
        have d2 : decide ((k : Int) < 20) = false := decide_eq_false (by omega)
        clear hlt
        go_wp2_with fail
        refine (same_ex z _).mono ?_
        rintro e ws ⟨rfl, hb⟩
        have I2 := Lib.hid (I.out.on hb)
        clear hb
        go_wp2
        go_ret
        exact ⟨rfl, I2.out.fr⟩
      · have d1 : decide ((k : Int) < (n0 : Int)) = false := decide_eq_false (by omega)
        clear hlt
        go_wp2_with fail
        refine (same_ex z _).mono ?_
        rintro e ws ⟨rfl, hb⟩
        have I2 := Lib.hid (I.out.on hb)
        clear hb
        go_wp2
        go_ret
        exact ⟨rfl, I2.out.fr⟩
end Go.Proofs.Ytfcllangolinaaa
