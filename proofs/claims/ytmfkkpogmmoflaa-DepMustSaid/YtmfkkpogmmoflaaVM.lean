/- DepMust: its walk. -/
import Derived.Test.YtmfkkpogmmoflaaVI
namespace Go.Proofs.Ytmfkkpogmmoflaa
open Go Go.RowKit Go.Proofs

abbrev yT : ByteArray := ⟨#[116]⟩
abbrev yU : ByteArray := ⟨#[117]⟩
abbrev yK : ByteArray := ⟨#[107]⟩
abbrev yA : ByteArray := ⟨#[97]⟩
abbrev yB : ByteArray := ⟨#[98]⟩
abbrev yC : ByteArray := ⟨#[99]⟩
def kyM (key : Bool) : ByteArray := if key = true then yA else yK
def kdM (key : Bool) : Int := if key = true then 2 else 1
def tM (must key : Bool) : T := ⟨yT, [⟨yK, 1, false, e0⟩, ⟨yA, 2, must, e0⟩, ⟨yB, 2, false, e0⟩, ⟨yC, 2, false, e0⟩], kyM key, [⟨[yA], yB⟩]⟩
def uM (key : Bool) : T := ⟨yU, [⟨yT, kdM key, false, yT⟩], e0, []⟩
def mustK (must key : Bool) : List T := [formT (tM must key), formT (uM key)]
theorem must_kept (must key : Bool) : kept [tM must key, uM key] 2 = mustK must key := by
  have h0 : mayP [] (tM must key) = 0 := by cases must <;> cases key <;> decide +kernel
  have h1 : mayP [formT (tM must key)] (uM key) = 0 := by cases must <;> cases key <;> decide +kernel
  show addT (addT [] (tM must key)) (uM key) = _
  have e0 : addT [] (tM must key) = [formT (tM must key)] := by unfold addT; rw [if_pos h0]; rfl
  have e1 : addT [formT (tM must key)] (uM key) = mustK must key := by unfold addT; rw [if_pos h1]; rfl
  rw [e0, e1]
theorem must_few (must key : Bool) : AllFew (mustK must key) := must_kept must key ▸ (kept_inv [tM must key, uM key] 2).2
theorem must_fine (must key : Bool) : Fine (mustK must key) := must_kept must key ▸ Fine.kept Fine.nil
theorem must_sm (must key : Bool) : ∀ t ∈ [tM must key, uM key], Sm t := by
  intro t ht
  simp only [List.mem_cons, List.not_mem_nil, or_false] at ht
  rcases ht with rfl | rfl
  · exact small_of (show (1 : Nat) ≤ 20 by decide) rfl
  · exact small_of (show (1 : Nat) ≤ 20 by decide) rfl
def tmAll : List (List ByteArray) := [[yA], [yB], [yC], [yK]]
def umAll : List (List ByteArray) := [[yT], [yT, yA], [yT, yB], [yT, yC], [yT, yK]]
theorem tm_all (must key : Bool) : IsAll (mustK must key) yT tmAll := by cases must <;> cases key <;> exact ⟨by decide +kernel, by decide +kernel⟩
theorem um_all (must key : Bool) : IsAll (mustK must key) yU umAll := by cases must <;> cases key <;> exact ⟨by decide +kernel, by decide +kernel⟩
theorem must_1 (must key : Bool) : (must || key) = true ↔ Cl (mustK must key) yT (· ∈ [[yA]]) [yB] := cl_by (must_fine must key) (tm_all must key) (by cases must <;> cases key <;> decide +kernel)
theorem must_2 (must key : Bool) : (must || key) = true ↔ Cl (mustK must key) yU (· ∈ [[yT, yA]]) [yT, yB] := cl_by (must_fine must key) (um_all must key) (by cases must <;> cases key <;> decide +kernel)
theorem must_3 (must key : Bool) : key = true ↔ Cl (mustK must key) yU (· ∈ [[yT, yA]]) [yT, yC] := cl_by (must_fine must key) (um_all must key) (by cases must <;> cases key <;> decide +kernel)
/-- The two tables' memory. -/
structure MS (S : Nat) (W : World) (must : Bool) (ky : ByteArray) (w : World) : Prop where
  h0 : w.heap[S]? = some (.cells #[.string yK, .int .i64 1, .bool false, .string e0, .string yA, .int .i64 2, .bool must, .string e0, .string yB, .int .i64 2, .bool false, .string e0, .string yC, .int .i64 2, .bool false, .string e0] 38)
  h1 : w.heap[S + 1]? = some (.cells #[.string yA] 9)
  h2 : w.heap[S + 2]? = some (.cells #[.slice (some ⟨S + 1, 0, none⟩) 1 1, .string yB] 41)
  h3 : w.heap[S + 3]? = some (.cells #[.string yT, .slice (some ⟨S, 0, none⟩) 4 4, .string ky, .slice (some ⟨S + 2, 0, none⟩) 1 1] 44)
  b : Below W.heap.size W w
  le : W.heap.size ≤ S
theorem MS.on {S : Nat} {W w w' : World} {must : Bool} {ky : ByteArray} (h : MS S W must ky w) (hb : Below w.heap.size w w') : MS S W must ky w' :=
  ⟨heap_on hb h.h0, heap_on hb h.h1, heap_on hb h.h2, heap_on hb h.h3, below_on h.b hb, h.le⟩
theorem MS.off {S : Nat} {W w : World} {must : Bool} {ky : ByteArray} (h : MS S W must ky w) {g i : Nat} (hg : S + 4 ≤ g) (v : Value) : MS S W must ky (w.setCell ⟨g, i, none⟩ v) := by
  have ho : ∀ k, k < g → (w.setCell ⟨g, i, none⟩ v).heap[k]? = w.heap[k]? := fun k hk => heap_setCell_other w ⟨g, i, none⟩ k v (by simp; omega)
  exact ⟨(ho _ (by omega)).trans h.h0, (ho _ (by omega)).trans h.h1, (ho _ (by omega)).trans h.h2, (ho _ (by omega)).trans h.h3, h.b.trans (below_set w _ _ (by have := h.le; simp; omega)), h.le⟩
theorem MS.key {S : Nat} {W w : World} {must : Bool} {ky : ByteArray} (h : MS S W must ky w) (k : ByteArray) : MS S W must k (w.setCell ⟨S + 3, 2, none⟩ (.string k)) := by
  have ho : ∀ q, q ≠ S + 3 → (w.setCell ⟨S + 3, 2, none⟩ (.string k)).heap[q]? = w.heap[q]? := fun q hq => heap_setCell_other w ⟨S + 3, 2, none⟩ q _ hq
  exact ⟨(ho _ (by omega)).trans h.h0, (ho _ (by omega)).trans h.h1, (ho _ (by omega)).trans h.h2, heap_setCell_same w (S + 3) 2 _ 44 (.string k) h.h3, h.b.trans (below_set w _ _ (by have := h.le; simp; omega)), h.le⟩
structure MS2 (S : Nat) (W : World) (must : Bool) (ky : ByteArray) (R : Nat) (kd : Int) (w : World) : Prop where
  m : MS S W must ky w
  h4 : w.heap[R]? = some (.cells #[.string yT, .int .i64 kd, .bool false, .string yT] 38)
  h5 : w.heap[R + 1]? = some (.cells #[.string yU, .slice (some ⟨R, 0, none⟩) 1 1, .string e0, .slice none 0 0] 44)
  le : S + 4 ≤ R
theorem MS2.on {S R : Nat} {W w w' : World} {must : Bool} {ky : ByteArray} {kd : Int} (h : MS2 S W must ky R kd w) (hb : Below w.heap.size w w') : MS2 S W must ky R kd w' :=
  ⟨h.m.on hb, heap_on hb h.h4, heap_on hb h.h5, h.le⟩
theorem MS2.kind {S R : Nat} {W w : World} {must : Bool} {ky : ByteArray} {kd : Int} (h : MS2 S W must ky R kd w) (k : Int) : MS2 S W must ky R k (w.setCell ⟨R, 1, none⟩ (.int .i64 k)) :=
  ⟨h.m.off h.le _, heap_setCell_same w R 1 _ 38 (.int .i64 k) h.h4, (heap_setCell_other w ⟨R, 1, none⟩ (R + 1) _ (by simp)).trans h.h5, h.le⟩
/-- Laid one behind the other, they are the two tables. -/
theorem must_mem {S R G : Nat} {W w : World} {must key : Bool} (h : MS2 S W must (kyM key) R (kdM key) w) (hg : w.heap[G]? = some (.cells #[.string yT, .slice (some ⟨S, 0, none⟩) 4 4, .string (kyM key), .slice (some ⟨S + 2, 0, none⟩) 1 1, .string yU, .slice (some ⟨R, 0, none⟩) 1 1, .string e0, .slice none 0 0] 44)) : RdTs w (.slice (some ⟨G, 0, none⟩) 2 2) [tM must key, uM key] := by
  have t0 : RdT w (sl S 4) (sl (S + 2) 1) (tM must key) := ⟨RdC.lit (l := (tM must key).cols) h.m.h0 (show 4 ≤ maxLen by decide), depLit (b2 := S + 1) h.m.h2 h.m.h1⟩
  have t1 : RdT w (sl R 1) (.slice none 0 0) (uM key) := ⟨RdC.lit (l := (uM key).cols) h.h4 (show 1 ≤ maxLen by decide), RdD.none _⟩
  refine ⟨_, 2, [.string yT, sl S 4, .string (kyM key), sl (S + 2) 1, .string yU, sl R 1, .string e0, .slice none 0 0], rfl, Nat.le_refl _, by decide, fun _ => ⟨G, 0, rfl, lt_of_heap hg, fun j u hj => ?_⟩, rfl, fun j hj => ?_⟩
  · rw [nd_cell hg, Nat.zero_add, List.getElem?_toArray]; exact hj
  · match j, hj with
    | 0, _ => exact ⟨_, _, rfl, rfl, rfl, rfl, t0⟩
    | 1, _ => exact ⟨_, _, rfl, rfl, rfl, rfl, t1⟩
    | j + 2, hj => exact absurd hj (by simp)
set_option maxRecDepth 100000 in
set_option maxHeartbeats 4000000 in
theorem depMust_walk (must key : Bool) (W : World) : Calls Try.prog 4 #[.bool must, .bool key] W fun e w' => e = .returned (.bool true) ∧ Below W.heap.size W w' := by
  go_enter Try.func4, Try.ntmps4
  go_upto_region 4 with (go_at_call 6; (with_reducible refine (dbegun_any _).mono ?_); rintro e w0 ⟨rfl, hb0⟩)
  go_upto_region 5 with fail
  have b1 := below_alloc w0 (.cells #[.string yK, .int .i64 1, .bool false, .string e0, .string yA, .int .i64 2, .bool must, .string e0, .string yB, .int .i64 2, .bool false, .string e0, .string yC, .int .i64 2, .bool false, .string e0] 38)
  have k0 := heap_alloc_new w0 (.cells #[.string yK, .int .i64 1, .bool false, .string e0, .string yA, .int .i64 2, .bool must, .string e0, .string yB, .int .i64 2, .bool false, .string e0, .string yC, .int .i64 2, .bool false, .string e0] 38)
  obtain ⟨x1, hx1⟩ : ∃ x, w0.alloc (.cells #[.string yK, .int .i64 1, .bool false, .string e0, .string yA, .int .i64 2, .bool must, .string e0, .string yB, .int .i64 2, .bool false, .string e0, .string yC, .int .i64 2, .bool false, .string e0] 38) = x := ⟨_, rfl⟩
  obtain ⟨S, hS⟩ : ∃ S, w0.heap.size = S := ⟨_, rfl⟩
  have s1 : x1.heap.size = S + 1 := by rw [← hx1, World.size_alloc, hS]
  rw [hx1] at b1 k0 ⊢
  rw [hS] at k0 ⊢
  have b2 := below_alloc x1 (.cells #[.string yA] 9)
  have k1 := heap_alloc_new x1 (.cells #[.string yA] 9)
  obtain ⟨x2, hx2⟩ : ∃ x, x1.alloc (.cells #[.string yA] 9) = x := ⟨_, rfl⟩
  have s2 : x2.heap.size = S + 2 := by rw [← hx2, World.size_alloc, s1]
  rw [hx2] at b2 k1 ⊢
  rw [s1] at k1
  have b3 := below_alloc x2 (.cells #[.slice (some ⟨S + 1, 0, none⟩) 1 1, .string yB] 41)
  have k2 := heap_alloc_new x2 (.cells #[.slice (some ⟨S + 1, 0, none⟩) 1 1, .string yB] 41)
  obtain ⟨x3, hx3⟩ : ∃ x, x2.alloc (.cells #[.slice (some ⟨S + 1, 0, none⟩) 1 1, .string yB] 41) = x := ⟨_, rfl⟩
  have s3 : x3.heap.size = S + 3 := by rw [← hx3, World.size_alloc, s2]
  rw [hx3] at b3 k2 ⊢
  rw [s2] at k2
  have b4 := below_alloc x3 (.cells #[.string yT, .slice (some ⟨S, 0, none⟩) 4 4, .string yK, .slice (some ⟨S + 2, 0, none⟩) 1 1] 44)
  have k3 := heap_alloc_new x3 (.cells #[.string yT, .slice (some ⟨S, 0, none⟩) 4 4, .string yK, .slice (some ⟨S + 2, 0, none⟩) 1 1] 44)
  obtain ⟨x4, hx4⟩ : ∃ x, x3.alloc (.cells #[.string yT, .slice (some ⟨S, 0, none⟩) 4 4, .string yK, .slice (some ⟨S + 2, 0, none⟩) 1 1] 44) = x := ⟨_, rfl⟩
  have HX4 := Lib.hid hx4
  rw [hx4] at b4 k3
  rw [s3] at k3
  have h4 : MS S w0 must yK x4 := ⟨heap_on (below_on b2 (below_on b3 b4)) k0, heap_on (below_on b3 b4) k1, heap_on b4 k2, k3, below_on b1 (below_on b2 (below_on b3 b4)), Nat.le_of_eq hS⟩
  have s4 : x4.heap.size = S + 4 := by rw [← hx4, World.size_alloc, s3]
  rw [show S + 1 + 1 = S + 2 from rfl, show S + 2 + 1 = S + 3 from rfl, hx4]
  have H4 := Lib.hid (And.intro h4 (And.intro s4 hb0))
  clear b1 k0 hx1 s1 b2 k1 hx2 s2 b3 k2 hx3 s3 b4 k3 hx4 h4 s4 hb0 hS HX4
  have z2 := nd_cell H4.out.1.h3 2
  have zf := frozen_of_row x4 (S + 3) 2 _ _ H4.out.1.h3
  have zl := lt_of_heap H4.out.1.h3
  go_upto_if 26 with fail
  go_cut [] from 27 to 28 (fun wx => MS S w0 must (kyM key) wx ∧ wx.heap.size = S + 4)
  case first =>
    cases key
    · go_wp2_with fail
      go_meet
      exact ⟨H4.out.1, H4.out.2.1⟩
    · go_wp2_with fail
      go_meet
      exact ⟨H4.out.1.key yA, by rw [World.size_setCell]; exact H4.out.2.1⟩
  case rest =>
    obtain ⟨hM, hsz⟩ := hcut
    obtain ⟨w1, rfl⟩ : ∃ x, x = wc := ⟨_, rfl⟩
    clear z2 zf zl
    go_upto_region 8 with fail
    have b1 := below_alloc w1 (.cells #[.string yT, .int .i64 1, .bool false, .string yT] 38)
    have k1 := heap_alloc_new w1 (.cells #[.string yT, .int .i64 1, .bool false, .string yT] 38)
    obtain ⟨y1, hy1⟩ : ∃ x, w1.alloc (.cells #[.string yT, .int .i64 1, .bool false, .string yT] 38) = x := ⟨_, rfl⟩
    have s1 : y1.heap.size = S + 4 + 1 := by rw [← hy1, World.size_alloc, hsz]
    rw [hy1] at b1 k1 ⊢
    rw [hsz] at k1
    have b2 := below_alloc y1 (.cells #[.string yU, .slice (some ⟨S + 4, 0, none⟩) 1 1, .string e0, .slice none 0 0] 44)
    have k2 := heap_alloc_new y1 (.cells #[.string yU, .slice (some ⟨S + 4, 0, none⟩) 1 1, .string e0, .slice none 0 0] 44)
    obtain ⟨y2, hy2⟩ : ∃ x, y1.alloc (.cells #[.string yU, .slice (some ⟨S + 4, 0, none⟩) 1 1, .string e0, .slice none 0 0] 44) = x := ⟨_, rfl⟩
    rw [hy2] at b2 k2 ⊢
    rw [s1] at k2
    have h2 : MS2 S w0 must (kyM key) (S + 4) 1 y2 := ⟨hM.on (below_on b1 b2), heap_on b2 k1, k2, Nat.le_refl _⟩
    have H2 := Lib.hid h2
    clear b1 k1 hy1 s1 b2 k2 hy2 hM hsz h2
    have z1 := nd_cell H2.out.h5 1
    have zl := lt_of_heap H2.out.h5
    have y1' := nd_cell H2.out.h4 1
    have yf := frozen_of_row y2 (S + 4) 1 _ _ H2.out.h4
    have yl := lt_of_heap H2.out.h4
    go_upto_if 31 with fail
    go_cut [] from 32 to 36 (fun wx => MS2 S w0 must (kyM key) (S + 4) (kdM key) wx)
    case first =>
      cases key
      · go_wp2_with fail
        go_meet
        exact H2.out
      · go_wp2_with fail
        go_meet
        exact H2.out.kind 2
    case rest =>
      have H3 := Lib.hid hcut
      obtain ⟨w2, rfl⟩ : ∃ x, x = wc := ⟨_, rfl⟩
      clear hcut z1 zl y1' yf yl
      have z0 := nd_cell H3.out.m.h3 0
      have z1 := nd_cell H3.out.m.h3 1
      have z2 := nd_cell H3.out.m.h3 2
      have z3 := nd_cell H3.out.m.h3 3
      have zl := lt_of_heap H3.out.m.h3
      have u0 := nd_cell H3.out.h5 0
      have u1 := nd_cell H3.out.h5 1
      have u2 := nd_cell H3.out.h5 2
      have u3 := nd_cell H3.out.h5 3
      have ul := lt_of_heap H3.out.h5
      have b1 := below_alloc w2 (.cells #[.string yT, .slice (some ⟨S, 0, none⟩) 4 4, .string (kyM key), .slice (some ⟨S + 2, 0, none⟩) 1 1, .string yU, .slice (some ⟨S + 4, 0, none⟩) 1 1, .string e0, .slice none 0 0] 44)
      have k1 := heap_alloc_new w2 (.cells #[.string yT, .slice (some ⟨S, 0, none⟩) 4 4, .string (kyM key), .slice (some ⟨S + 2, 0, none⟩) 1 1, .string yU, .slice (some ⟨S + 4, 0, none⟩) 1 1, .string e0, .slice none 0 0] 44)
      have hboth := both_is (must_mem (H3.out.on b1) k1) (must_sm must key) (show 2 ≤ 1000 by decide) (must_kept must key)
      have HB := Lib.hid (below_on (below_on H4.out.2.2 H3.out.m.b) b1)
      clear b1 k1
      go_upto_region 11 with (go_at_call 8; (with_reducible refine hboth.mono ?_); rintro e w3 ⟨SS, p, n, c, rfl, hn, hK⟩; have K3 := Lib.hid (hK.mono HB.out); clear hn hK hboth z0 z1 z2 z3 zl u0 u1 u2 u3 ul)
      have h2 := det_lit (ca := #[.string yA]) (cb := #[.string yB]) (n := 1) (m := 1) (must_few must key) (must_fine must key) K3.out.sch rfl rfl (by decide) rfl rfl (by decide) (must_1 must key)
      go_upto_region 12 with (go_at_call 12; (with_reducible refine h2.mono ?_); rintro e w4 ⟨rfl, hb⟩; have K4 := Lib.hid (K3.out.on hb); clear hb h2)
      have h3 := det_lit (ca := #[.string yT, .string yA]) (cb := #[.string yT, .string yB]) (n := 2) (m := 2) (must_few must key) (must_fine must key) K4.out.sch rfl rfl (by decide) rfl rfl (by decide) (must_2 must key)
      go_upto_region 13 with (go_at_call 12; (with_reducible refine h3.mono ?_); rintro e w5 ⟨rfl, hb⟩; have K5 := Lib.hid (K4.out.on hb); clear hb h3)
      have h4 := det_lit (ca := #[.string yT, .string yA]) (cb := #[.string yT, .string yC]) (n := 2) (m := 2) (must_few must key) (must_fine must key) K5.out.sch rfl rfl (by decide) rfl rfl (by decide) (must_3 must key)
      go_upto_region 14 with (go_at_call 12; (with_reducible refine h4.mono ?_); rintro e w6 ⟨rfl, hb⟩; have K6 := Lib.hid (K5.out.on hb); clear hb h4)
      cases must <;> cases key
      all_goals
        go_wp2_with fail
        go_ret
        exact ⟨rfl, K6.out.below⟩
end Go.Proofs.Ytmfkkpogmmoflaa
