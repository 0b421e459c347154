/- namedDeps, fits. -/
import Derived.Test.YtcgceigcegddlaaDE
namespace Go.Proofs.Ytcgceigcegddlaa
open Go Go.RowKit Go.Proofs

theorem heap_on {w w' : World} {b : Nat} {o : Obj} (hb : Below w.heap.size w w') (h : w.heap[b]? = some o) : w'.heap[b]? = some o := (hb.block _ (lt_of_heap h)).trans h
/-- A boxed table, and what was there. -/
structure KeepT (B : Nat) (W0 : World) (S0 : Nat) (t : T) (cv dv : Value) (w : World) : Prop where
  box : w.heap[S0]? = some (boxT t.nm cv t.key dv)
  tab : RdT w cv dv t
  below : Below B W0 w
  le : B ≤ S0
section
variable {B : Nat} {W0 : World} {S0 : Nat} {t : T} {cv dv : Value} {w w' : World}
theorem KeepT.size (h : KeepT B W0 S0 t cv dv w) : B ≤ w.heap.size := Nat.le_trans h.le (Nat.le_of_lt (lt_of_heap h.box))
theorem KeepT.on (h : KeepT B W0 S0 t cv dv w) (hb : Below w.heap.size w w') : KeepT B W0 S0 t cv dv w' :=
  ⟨heap_on hb h.box, h.tab.later hb, h.below.trans (hb.mono h.size), h.le⟩
theorem KeepT.cells (h : KeepT B W0 S0 t cv dv w) : S0 < w.heap.size ∧ w.cell? ⟨S0, 0, none⟩ = some (.string t.nm) ∧ w.cell? ⟨S0, 1, none⟩ = some cv ∧ w.cell? ⟨S0, 2, none⟩ = some (.string t.key) ∧ w.cell? ⟨S0, 3, none⟩ = some dv :=
  ⟨lt_of_heap h.box, nd_cell h.box 0, nd_cell h.box 1, nd_cell h.box 2, nd_cell h.box 3⟩
theorem KeepT.new (h : RdT w cv dv t) : KeepT w.heap.size w w.heap.size t cv dv (w.alloc (boxT t.nm cv t.key dv)) :=
  ⟨heap_alloc_new w _, h.later (below_alloc w _), below_alloc w _, Nat.le_refl _⟩
end
/-- Beside it, a dep. -/
structure KeepD (B : Nat) (W0 : World) (S0 S : Nat) (t : T) (cv dv : Value) (d : D) (lv : Value) (w : World) : Prop where
  tb : KeepT B W0 S0 t cv dv w
  dep : w.heap[S]? = some (.cells #[lv, .string d.right] 71)
  left : RdS w lv d.left
section
variable {B : Nat} {W0 : World} {S0 S : Nat} {t : T} {cv dv : Value} {d : D} {lv : Value} {w w' : World}
theorem KeepD.on (h : KeepD B W0 S0 S t cv dv d lv w) (hb : Below w.heap.size w w') : KeepD B W0 S0 S t cv dv d lv w' :=
  ⟨h.tb.on hb, heap_on hb h.dep, h.left.later hb⟩
theorem KeepD.cells (h : KeepD B W0 S0 S t cv dv d lv w) : S < w.heap.size ∧ w.cell? ⟨S, 0, none⟩ = some lv ∧ w.cell? ⟨S, 1, none⟩ = some (.string d.right) :=
  ⟨lt_of_heap h.dep, nd_cell h.dep 0, nd_cell h.dep 1⟩
theorem KeepD.new (h : KeepT B W0 S0 t cv dv w) (hl : RdS w lv d.left) : KeepD B W0 S0 w.heap.size t cv dv d lv (w.alloc (.cells #[lv, .string d.right] 71)) :=
  ⟨h.on (below_alloc w _), heap_alloc_new w _, hl.later (below_alloc w _)⟩
end
theorem namedLeft_is {l : List C} {left : List ByteArray} {cv lv : Value} {W : World} {b : Bool} (h : RdC W cv l) (hs : RdS W lv left) (hb : leftGood l left = b) : Calls Try.prog 83 #[cv, lv] W fun e w' => e = .returned (.bool b) ∧ Below W.heap.size W w' := hb ▸ namedLeft_any h hs
theorem depAt_at {l : List C} {ds : List D} {j : Nat} (hj : j < ds.length) : depAt l ds j = (leftGood l ds[j].left && (hasC l ds[j].right && !hasS ds[j].left ds[j].right)) := by
  unfold depAt; rw [List.getElem?_eq_getElem hj]; rfl

set_option maxRecDepth 100000 in
set_option maxHeartbeats 2000000 in
theorem namedDeps_any {t : T} {cv dv : Value} {W : World} (h : RdT W cv dv t) : Calls Try.prog 60 #[.agg #[.string t.nm, cv, .string t.key, dv]] W fun e w' => e = .returned (.bool (depsGood t.cols t.deps)) ∧ Below W.heap.size W w' := by
  have HK := Lib.hid (KeepT.new h)
  obtain ⟨pc, cc, hcv, _, _⟩ := h.1.slice
  obtain ⟨p, cap, hdv, hc, hm⟩ := h.2.slice
  obtain ⟨nc, hnc⟩ : ∃ n, t.cols.length = n := ⟨_, rfl⟩
  obtain ⟨n, hn⟩ : ∃ n, t.deps.length = n := ⟨_, rfl⟩
  obtain ⟨B, hB⟩ : ∃ B, W.heap.size = B := ⟨_, rfl⟩
  unfold maxLen at hm
  rw [hn] at hc hdv
  rw [hnc] at hcv
  subst hcv hdv
  have HN := Lib.hid hn
  rw [hB] at HK
  have hB2 := Lib.hid hB
  clear h hn hnc
  go_enter Try.func60, Try.ntmps60
  go_upto_region 1 with fail
  obtain ⟨w0, hw0⟩ : ∃ w0, W.alloc (boxT t.nm (.slice pc nc cc) t.key (.slice p n cap)) = w0 := ⟨_, rfl⟩
  rw [hw0] at HK ⊢
  clear hw0
  obtain ⟨hlt0, _, z1, _, z3⟩ := HK.out.cells
  go_wp2_with fail
  clear z1 z3 hlt0
  go_loopg [8] (n + 1) (fun gh jv w => ∃ (j : Nat), jv = .int .i64 (j : Int) ∧ j ≤ n ∧ n + 1 ≤ j + gh ∧ (∀ i, i < j → depAt t.cols t.deps i = true) ∧ KeepT B W B t (.slice pc nc cc) (.slice p n cap) w)
  case atStart => exact ⟨0, rfl, Nat.zero_le _, by omega, fun i hi => by omega, HK.out⟩
  case round =>
    obtain ⟨j, rfl, hj, hg, hno, hK⟩ := hrel
    have HI := Lib.hid (And.intro hno hK)
    clear hno
    by_cases hlt : j < n
    · have hjl : j < t.deps.length := by rw [HN.out]; exact hlt
      obtain ⟨b, off, lv, rfl, hb, c0, c1, hlv⟩ := RdD.dep hK.tab.2 hjl
      obtain ⟨d, hdj⟩ : ∃ d, t.deps[j] = d := ⟨_, rfl⟩
      have hG := depAt_at (l := t.cols) hjl
      rw [hdj] at c1 hlv hG
      obtain ⟨pl, cl, rfl, _, _⟩ := hlv.slice
      obtain ⟨nl, hnl⟩ : ∃ n, d.left.length = n := ⟨_, rfl⟩
      rw [hnl] at hlv c0
      have HD := Lib.hid (KeepD.new hK hlv)
      clear hdj hK hlv hnl
      go_upto_region 4 with fail
      obtain ⟨S, hS⟩ : ∃ S, wr.heap.size = S := ⟨_, rfl⟩
      obtain ⟨w1, hw1⟩ : ∃ w1, wr.alloc (.cells #[.slice pl nl cl, .string d.right] 71) = w1 := ⟨_, rfl⟩
      rw [hw1, hS] at HD ⊢
      clear hw1 hS c0 c1 hb
      obtain ⟨y0, y1, y2⟩ := HD.out.cells
      obtain ⟨hlt0, _, z1, _, _⟩ := HD.out.tb.cells
      cases hl : leftGood t.cols d.left
      · have HG : Hid (depAt t.cols t.deps j = false) := Lib.hid (by rw [hG, hl]; rfl)
        have hca := namedLeft_is HD.out.tb.tab.1 HD.out.left hl
        clear hG hl
        go_wp2_with (go_at_call 83; (with_reducible refine hca.mono ?_); rintro e w2 ⟨rfl, hb2⟩)
        go_ret
        exact ⟨ret_bool (range_no j hjl HG.out).symm, hB2.out ▸ (HD.out.on hb2).tb.below⟩
      · have hca := namedLeft_is HD.out.tb.tab.1 HD.out.left hl
        have hcb : ∀ {w : World}, KeepD B W B S t (.slice pc nc cc) (.slice (some ⟨b, off, none⟩) n cap) d (.slice pl nl cl) w → _ := fun {w} hK => has_any (x := d.right) (W := w) hK.tb.tab.1
        have hcc : ∀ {w : World}, KeepD B W B S t (.slice pc nc cc) (.slice (some ⟨b, off, none⟩) n cap) d (.slice pl nl cl) w → _ := fun {w} hK => contains_any (x := d.right) (W := w) hK.left
        cases hh : hasC t.cols d.right
        · have HG : Hid (depAt t.cols t.deps j = false) := Lib.hid (by rw [hG, hl, hh]; rfl)
          rw [hh] at hcb
          clear hG hl hh hcc
          go_wp2_with (first
            | (go_at_call 83; (with_reducible refine hca.mono ?_); rintro e w2 ⟨rfl, hb2⟩; have H2 := Lib.hid (HD.out.on hb2); obtain ⟨x0, x1, x2⟩ := H2.out.cells; obtain ⟨x3, _, x4, _, _⟩ := H2.out.tb.cells; clear hb2 hca)
            | (go_at_call 82; (with_reducible refine (hcb H2.out).mono ?_); rintro e w3 ⟨rfl, hb3⟩))
          go_ret
          exact ⟨ret_bool (range_no j hjl HG.out).symm, hB2.out ▸ (H2.out.on hb3).tb.below⟩
        · rw [hh] at hcb
          cases hh2 : hasS d.left d.right
          · have HG : Hid (depAt t.cols t.deps j = true) := Lib.hid (by rw [hG, hl, hh, hh2]; rfl)
            rw [hh2] at hcc
            clear hG hl hh hh2
            go_wp2_with (first
              | (go_at_call 83; (with_reducible refine hca.mono ?_); rintro e w2 ⟨rfl, hb2⟩; have H2 := Lib.hid (HD.out.on hb2); obtain ⟨x0, x1, x2⟩ := H2.out.cells; obtain ⟨x3, _, x4, _, _⟩ := H2.out.tb.cells; clear hb2 hca)
              | (go_at_call 82; (with_reducible refine (hcb H2.out).mono ?_); rintro e w3 ⟨rfl, hb3⟩; have H3 := Lib.hid (H2.out.on hb3); obtain ⟨q0, q1, q2⟩ := H3.out.cells; obtain ⟨q3, _, q4, _, _⟩ := H3.out.tb.cells; clear hb3 hcb)
              | (go_at_call 84; (with_reducible refine (hcc H3.out).mono ?_); rintro e w4 ⟨rfl, rfl⟩))
            go_roundg (n - j)
            case measure => omega
            case rel => exact ⟨j + 1, by go_num, by omega, by omega, fun i hi => by rcases (by omega : i < j ∨ i = j) with h | rfl; exact HI.out.1 i h; exact HG.out, H3.out.tb⟩
          · have HG : Hid (depAt t.cols t.deps j = false) := Lib.hid (by rw [hG, hl, hh, hh2]; rfl)
            rw [hh2] at hcc
            clear hG hl hh hh2
            go_wp2_with (first
              | (go_at_call 83; (with_reducible refine hca.mono ?_); rintro e w2 ⟨rfl, hb2⟩; have H2 := Lib.hid (HD.out.on hb2); obtain ⟨x0, x1, x2⟩ := H2.out.cells; obtain ⟨x3, _, x4, _, _⟩ := H2.out.tb.cells; clear hb2 hca)
              | (go_at_call 82; (with_reducible refine (hcb H2.out).mono ?_); rintro e w3 ⟨rfl, hb3⟩; have H3 := Lib.hid (H2.out.on hb3); obtain ⟨q0, q1, q2⟩ := H3.out.cells; obtain ⟨q3, _, q4, _, _⟩ := H3.out.tb.cells; clear hb3 hcb)
              | (go_at_call 84; (with_reducible refine (hcc H3.out).mono ?_); rintro e w4 ⟨rfl, rfl⟩))
            go_ret
            exact ⟨ret_bool (range_no j hjl HG.out).symm, hB2.out ▸ H3.out.tb.below⟩
    · go_wp2_with fail
      go_ret
      exact ⟨ret_bool (range_yes (fun i hi => HI.out.1 i (by have := HN.out; omega))).symm, hB2.out ▸ HI.out.2.below⟩

def fitsB (t : T) : Bool := decide (0 < t.cols.length) && (decide (t.cols.length ≤ 6) && decide (t.deps.length ≤ 3))
set_option maxRecDepth 100000 in
theorem fits_any {t : T} {cv dv : Value} {W : World} (h : RdT W cv dv t) : Calls Try.prog 56 #[.agg #[.string t.nm, cv, .string t.key, dv]] W fun e w' => e = .returned (.bool (fitsB t)) ∧ Below W.heap.size W w' := by
  obtain ⟨pc, cc, rfl, _, _⟩ := h.1.slice
  obtain ⟨p, cap, rfl, hc, hm⟩ := h.2.slice
  clear h hc hm
  obtain ⟨r, hr⟩ : ∃ r, fitsB t = r := ⟨_, rfl⟩
  rw [hr]
  unfold fitsB at hr
  generalize t.cols.length = m at *
  generalize t.deps.length = n at *
  have HR := Lib.hid hr
  clear hr
  by_cases h1 : 0 < m
  · by_cases h2 : m ≤ 6
    · by_cases h3 : n ≤ 3
      · go_enter Try.func56, Try.ntmps56
        go_wp2_with fail
        go_ret
        exact ⟨ret_bool (by rw [← HR.out]; simp [h1, h2, h3]; omega), below_alloc W _⟩
      · go_enter Try.func56, Try.ntmps56
        go_wp2_with fail
        go_ret
        exact ⟨ret_bool (by rw [← HR.out]; simp [h1, h2, h3]; omega), below_alloc W _⟩
    · go_enter Try.func56, Try.ntmps56
      go_wp2_with fail
      go_ret
      exact ⟨ret_bool (by rw [← HR.out]; simp [h1, h2]), below_alloc W _⟩
  · go_enter Try.func56, Try.ntmps56
    go_wp2_with fail
    go_ret
    exact ⟨ret_bool (by rw [← HR.out]; simp [h1]), below_alloc W _⟩
end Go.Proofs.Ytcgceigcegddlaa
