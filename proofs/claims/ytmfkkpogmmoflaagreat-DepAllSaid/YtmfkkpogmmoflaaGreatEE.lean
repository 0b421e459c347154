/- A Schema in memory; there, find. free, leads. may. -/
import Derived.Test.YtmfkkpogmmoflaaGreatDD
namespace Go.Proofs.YtmfkkpogmmoflaaGreat
open Go Go.RowKit Go.Proofs

/-- The cells of tables. -/
def TabsC (W : World) (xs : List Value) (ts : List T) : Prop := xs.length = ts.length * 4 ∧ ∀ j (h : j < ts.length), ∃ cv dv, xs[j * 4]? = some (.string ts[j].nm) ∧ xs[j * 4 + 1]? = some cv ∧ xs[j * 4 + 2]? = some (.string ts[j].key) ∧ xs[j * 4 + 3]? = some dv ∧ RdT W cv dv ts[j]
theorem TabsC.kp {W W' : World} {xs : List Value} {ts : List T} (h : TabsC W xs ts) (hk : Kp W W') : TabsC W' xs ts := ⟨h.1, fun j hj => by
  obtain ⟨cv, dv, h1, h2, h3, h4, h5⟩ := h.2 j hj
  exact ⟨cv, dv, h1, h2, h3, h4, h5.kp hk⟩⟩
theorem TabsC.nil (W : World) : TabsC W [] [] := ⟨rfl, fun j h => absurd h (Nat.not_lt_zero j)⟩
theorem TabsC.snoc {W : World} {xs : List Value} {ts : List T} (h : TabsC W xs ts) {t : T} {cv dv : Value} (ht : RdT W cv dv t) : TabsC W (xs ++ [.string t.nm, cv, .string t.key, dv]) (ts ++ [t]) := by
  refine ⟨by simp [h.1]; omega, fun j hj => ?_⟩
  by_cases e : j < ts.length
  · obtain ⟨cv, dv, h1, h2, h3, h4, h5⟩ := h.2 j e
    rw [List.getElem_append_left e]
    exact ⟨cv, dv, by rw [List.getElem?_append_left (by rw [h.1]; omega)]; exact h1, by rw [List.getElem?_append_left (by rw [h.1]; omega)]; exact h2, by rw [List.getElem?_append_left (by rw [h.1]; omega)]; exact h3, by rw [List.getElem?_append_left (by rw [h.1]; omega)]; exact h4, h5⟩
  · have e2 : j = ts.length := by simp at hj; omega
    subst e2
    have e3 : (ts ++ [t])[ts.length] = t := by simp
    rw [e3]
    refine ⟨cv, dv, ?_, ?_, ?_, ?_, ht⟩ <;> rw [List.getElem?_append_right (by rw [h.1]; omega), h.1] <;> simp
/-- A slice of tables that can be read. -/
def RdTs (W : World) (v : Value) (ts : List T) : Prop := ∃ p cap xs, v = .slice p ts.length cap ∧ ts.length ≤ cap ∧ cap ≤ maxLen ∧ (0 < ts.length → ∃ b off, p = some ⟨b, off, none⟩ ∧ b < W.heap.size ∧ ∀ j u, xs[j]? = some u → W.cell? ⟨b, off + j, none⟩ = some u) ∧ TabsC W xs ts
theorem RdTs.later {W W' : World} {v : Value} {ts : List T} (h : RdTs W v ts) (hb : Below W.heap.size W W') : RdTs W' v ts := by
  obtain ⟨p, cap, xs, h1, h2, h3, h4, h5⟩ := h
  refine ⟨p, cap, xs, h1, h2, h3, fun hn => ?_, h5.kp (.below hb)⟩
  obtain ⟨b, off, h6, h7, h8⟩ := h4 hn
  exact ⟨b, off, h6, Nat.lt_of_lt_of_le h7 hb.size, fun j u hj => (World.cell?_of_block (w := W) (hb.block b h7)).trans (h8 j u hj)⟩
theorem RdTs.slice {W : World} {v : Value} {ts : List T} (h : RdTs W v ts) : ∃ p cap, v = .slice p ts.length cap ∧ ts.length ≤ cap ∧ cap ≤ maxLen := by
  obtain ⟨p, cap, xs, h1, h2, h3, h4, h5⟩ := h
  exact ⟨p, cap, h1, h2, h3⟩
theorem RdTs.nil (W : World) : RdTs W (.slice none 0 0) [] := ⟨none, 0, [], rfl, Nat.le_refl _, Nat.zero_le _, fun h => absurd h (Nat.lt_irrefl _), TabsC.nil W⟩
theorem RdTs.tab {W : World} {p : Option Addr} {n cap : Nat} {ts : List T} (h : RdTs W (.slice p n cap) ts) {i : Nat} (hi : i < ts.length) : ∃ b off cv dv, p = some ⟨b, off, none⟩ ∧ b < W.heap.size ∧
    W.cell? ⟨b, off + i * 4, none⟩ = some (.string ts[i].nm) ∧ W.cell? ⟨b, off + i * 4 + 1, none⟩ = some cv ∧ W.cell? ⟨b, off + i * 4 + 2, none⟩ = some (.string ts[i].key) ∧ W.cell? ⟨b, off + i * 4 + 3, none⟩ = some dv ∧ RdT W cv dv ts[i] := by
  obtain ⟨p', cap', xs, h1, h2, h3, h4, h5⟩ := h
  obtain ⟨rfl, rfl, rfl⟩ := Value.slice.inj h1
  obtain ⟨b, off, h6, h7, h8⟩ := h4 (by omega)
  obtain ⟨cv, dv, c0, c1, c2, c3, c4⟩ := h5.2 i hi
  exact ⟨b, off, cv, dv, h6, h7, h8 _ _ c0, by rw [Nat.add_assoc]; exact h8 _ _ c1, by rw [Nat.add_assoc]; exact h8 _ _ c2, by rw [Nat.add_assoc]; exact h8 _ _ c3, c4⟩
/-- A Schema of the tables ts, at sb. -/
def Sch (W : World) (sb : Nat) (ts : List T) : Prop := ts.length ≤ 8 ∧ ∃ xs rest, W.heap[sb]? = some (.cells (xs ++ (rest ++ [.int .i64 ts.length])).toArray 73) ∧ xs.length + rest.length = 32 ∧ TabsC W xs ts
theorem Sch.later {W W' : World} {sb : Nat} {ts : List T} (h : Sch W sb ts) (hb : Below W.heap.size W W') : Sch W' sb ts := by
  obtain ⟨h0, xs, rest, h1, h2, h3⟩ := h
  exact ⟨h0, xs, rest, heap_on hb h1, h2, h3.kp (.below hb)⟩
theorem Sch.num {W : World} {sb : Nat} {ts : List T} (h : Sch W sb ts) : sb < W.heap.size ∧ W.cell? ⟨sb, 32, none⟩ = some (.int .i64 ts.length) := by
  obtain ⟨h0, xs, rest, h1, h2, h3⟩ := h
  refine ⟨lt_of_heap h1, ?_⟩
  rw [nd_cell h1, List.getElem?_toArray, List.getElem?_append_right (by omega), List.getElem?_append_right (by omega), show 32 - xs.length - rest.length = 0 by omega]
  rfl
theorem Sch.tabs {W : World} {sb : Nat} {ts : List T} (h : Sch W sb ts) : RdTs W (.slice (some ⟨sb, 0, none⟩) ts.length 8) ts := by
  obtain ⟨h0, xs, rest, h1, h2, h3⟩ := h
  refine ⟨_, 8, xs, rfl, h0, by unfold maxLen; omega, fun _ => ⟨sb, 0, rfl, lt_of_heap h1, fun j u hj => ?_⟩, h3⟩
  have hl : j < xs.length := (List.getElem?_eq_some_iff.1 hj).1
  rw [nd_cell h1, Nat.zero_add, List.getElem?_toArray, List.getElem?_append_left hl]
  exact hj
/-- A *Schema, nil or not. -/
def SchP (W : World) (pv : Value) (ts : List T) : Prop := (pv = .pointer none ∧ ts = []) ∨ ∃ sb, pv = (Value.pointer (some ⟨sb, 0, none⟩)) ∧ Sch W sb ts
theorem SchP.later {W W' : World} {pv : Value} {ts : List T} (h : SchP W pv ts) (hb : Below W.heap.size W W') : SchP W' pv ts := by
  rcases h with h | ⟨sb, h1, h2⟩
  · exact .inl h
  · exact .inr ⟨sb, h1, h2.later hb⟩

theorem slice57 (sb n : Nat) (h : n ≤ 8) (w : World) : (Instr.sliceAt 71 (Value.pointer (some ⟨sb, 0, none⟩)) none (some (.int .i64 n)) none).run Tryz.prog w = .ok (.slice (some ⟨sb, 0, none⟩) n 8) w := by
  have hl : Tryz.prog.arrayLen 71 = 8 := by kernel_rfl
  have he : Tryz.prog.elem 71 = 46 := by kernel_rfl
  rw [run_sliceAt_array_h w 71 ⟨sb, 0, none⟩ (by kernel_rfl) .i64 (n : Int) (by omega) (by rw [hl]; omega), hl, he]
  go_simp
set_option maxRecDepth 100000 in
theorem there_any {pv : Value} {ts : List T} {W : World} (h : SchP W pv ts) : Calls Tryz.prog 92 #[pv] W fun e w' => ∃ v, e = .returned v ∧ RdTs w' v ts ∧ Below W.heap.size W w' := by
  rcases h with ⟨rfl, rfl⟩ | ⟨sb, rfl, h⟩
  · go_enter Tryz.func92, Tryz.ntmps92
    go_wp2_with fail
    go_ret
    exact ⟨_, rfl, RdTs.nil W, Below.refl _ _⟩
  · have HS := Lib.hid h
    have h8 := h.1
    obtain ⟨n, hn⟩ : ∃ n, ts.length = n := ⟨_, rfl⟩
    rw [hn] at h8
    have HN := Lib.hid hn
    clear h hn
    go_enter Tryz.func92, Tryz.ntmps92
    go_upto_region 3 with fail
    refine Par.wp_region_par 9 [(Value.pointer (some ⟨sb, 0, none⟩)), (Value.pointer (some ⟨sb, 0, none⟩)), (Value.pointer (some ⟨sb, 0, none⟩)), (Value.pointer (some ⟨sb, 0, none⟩)), (Value.pointer (some ⟨sb, 0, none⟩)), (Value.pointer (some ⟨sb, 32, none⟩)), .int .i64 n, .slice (some ⟨sb, 0, none⟩) n 8, .slice (some ⟨sb, 0, none⟩) n 8] (fun w => Sch w sb ts ∧ Below W.heap.size W w) ?A1 ?hm1 ?hB1 ?hA1 (⟨HS.out.later (below_drewN W 1), below_drewN W 1⟩) ?hop1 ?hT1
    case hm1 => kernel_rfl
    case hB1 => kernel_rfl
    case hA1 =>
      simp only [Par.putA, Par.dstAt, Act.put, List.getElem?_toArray, List.getElem?_cons_zero, List.getElem?_cons_succ, Option.bind_some, List.setIfInBounds_toArray, List.set_cons_zero, List.set_cons_succ, List.getD_cons_zero, List.getD_cons_succ]
      rfl
    case hop1 =>
      simp only [List.take_succ_cons, List.take_zero, Par.GiveAll, and_true]
      refine ⟨fun w' hR => ?_, fun w' hR => ?_, fun w' hR => ?_, fun w' hR => ?_, fun w' hR => ?_, fun w' hR => ?_, fun w' hR => ?_, fun w' hR => ?_, fun w' hR => ?_⟩
      · have HR := Lib.hid hR
        clear hR
        simp only [Par.Gives]
        go_simp
        all_goals exact HR.out
      · have HR := Lib.hid hR
        clear hR
        simp only [Par.Gives]
        go_simp
        all_goals exact HR.out
      · have HR := Lib.hid hR
        clear hR
        simp only [Par.Gives]
        go_simp
        all_goals exact HR.out
      · have HR := Lib.hid hR
        clear hR
        simp only [Par.Gives]
        go_simp
        all_goals exact HR.out
      · have HR := Lib.hid hR
        clear hR
        simp only [Par.Gives]
        go_simp
        all_goals exact HR.out
      · have HR := Lib.hid hR
        clear hR
        simp only [Par.Gives]
        go_simp
        all_goals exact HR.out
      · have HR := Lib.hid hR
        have k := HN.out ▸ hR.1.num.2
        clear hR
        simp only [Par.Gives]
        go_simp
        all_goals exact HR.out
      · have HR := Lib.hid hR
        have k := slice57 sb n h8 w'
        clear hR
        simp only [Par.Gives]
        go_simp
        all_goals exact HR.out
      · have HR := Lib.hid hR
        clear hR
        simp only [Par.Gives]
        go_simp
        all_goals exact HR.out
    case hT1 =>
      intro w' hR
      simp only [List.drop_succ_cons, List.drop_nil]
      go_wp2_with fail
      go_ret
      exact ⟨_, rfl, HN.out ▸ hR.1.tabs, hR.2⟩
def zeroT : T := ⟨e0, [], e0, []⟩
def orT (o : Option T) : T := o.getD zeroT
/-- A block of tables, or of a Schema, is written. -/
theorem kp_set4 {x : World} {b : Nat} {cur : Array Value} {e : TypeId} (h : x.heap[b]? = some (.cells cur e)) (he : e = 73 ∨ e = 46) (a c d f : Value) : Kp x ((((x.setCell ⟨b, 0, none⟩ a).setCell ⟨b, 1, none⟩ c).setCell ⟨b, 2, none⟩ d).setCell ⟨b, 3, none⟩ f) := by
  intro q cur' e' m hq h1 h2
  have hne : q ≠ b := by
    rintro rfl
    rw [h] at hq
    cases hq
    rcases he with rfl | rfl
    · exact h1 rfl
    · exact h2 rfl
  have hs : ∀ (y : World) (i : Nat) (u : Value), (y.setCell ⟨b, i, none⟩ u).heap[q]? = y.heap[q]? := fun y i u => heap_setCell_other y ⟨b, i, none⟩ q u hne
  rw [hs, hs, hs, hs]
  exact hq
theorem zeroT_rd (W : World) : RdT W (.slice none 0 0) (.slice none 0 0) zeroT :=
  ⟨⟨rfl, none, 0, rfl, Nat.le_refl _, Nat.zero_le _, fun a h => (by cases h), fun h => absurd h (Nat.lt_irrefl _)⟩, [], rfl, ⟨rfl, none, 0, rfl, Nat.le_refl _, Nat.zero_le _, fun a h => (by cases h), fun h => absurd h (Nat.lt_irrefl _)⟩, fun j h => absurd h (Nat.not_lt_zero j)⟩
/-- A table comes, and whether it is there. -/
def GivesT (t : T) (ok : Bool) (W : World) (e : Ending) (w' : World) : Prop := ∃ p1 n1 c1 p2 n2 c2, e = .returned (.tuple #[.agg #[.string t.nm, .slice p1 n1 c1, .string t.key, .slice p2 n2 c2], .bool ok]) ∧ RdT w' (.slice p1 n1 c1) (.slice p2 n2 c2) t ∧ Below W.heap.size W w'

set_option maxRecDepth 100000 in
set_option maxHeartbeats 1000000 in
theorem sfind_any {pv : Value} {ts : List T} {x : ByteArray} {W : World} (h : SchP W pv ts) : Calls Tryz.prog 68 #[pv, .string x] W (GivesT (orT (findT ts x)) (hasT ts x) W) := by
  obtain ⟨S, hS⟩ : ∃ S, W.heap.size = S := ⟨_, rfl⟩
  have hB0 := below_alloc W (boxT e0 (.slice none 0 0) e0 (.slice none 0 0))
  have h0 := heap_alloc_new W (boxT e0 (.slice none 0 0) e0 (.slice none 0 0))
  have hz : (W.alloc (boxT e0 (.slice none 0 0) e0 (.slice none 0 0))).heap.size = S + 1 := by rw [World.size_alloc, hS]
  have hth := there_any (h.later hB0)
  obtain ⟨w0, hw0⟩ : ∃ w0, W.alloc (boxT e0 (.slice none 0 0) e0 (.slice none 0 0)) = w0 := ⟨_, rfl⟩
  rw [hw0] at hB0 h0 hth hz
  rw [hS] at h0
  have HB := Lib.hid (And.intro hB0 (And.intro h0 (And.intro hz hS)))
  clear h hB0 h0 hz
  have HW := Lib.hid hw0
  have HS := Lib.hid hS
  clear hw0 hS
  go_enter Tryz.func68, Tryz.ntmps68
  go_upto_region 1 with fail
  rw [HW.out, HS.out]
  go_wp2_with (go_at_call 92; (with_reducible refine hth.mono ?_); rintro e w1 ⟨v, rfl, hr, hb⟩; clear hth; obtain ⟨p, cap, hv, hc, hm⟩ := hr.slice; obtain ⟨n, hn⟩ : ∃ n, ts.length = n := ⟨_, rfl⟩; rw [hn] at hv hc; subst hv; have H1 := Lib.hid (And.intro hr (And.intro hb hn)); clear hr hb hn)
  unfold maxLen at hm
  go_loopg [11] (n + 1) (fun gh jv w => ∃ (j : Nat), jv = .int .i64 (j : Int) ∧ j ≤ n ∧ n + 1 ≤ j + gh ∧ (∀ i (h : i < ts.length), i < j → isT x ts[i] = false) ∧ Below w1.heap.size w1 w)
  case atStart => exact ⟨0, rfl, Nat.zero_le _, by omega, fun i _ hi => by omega, Below.refl _ _⟩
  case round =>
    obtain ⟨j, rfl, hj, hg, hno, hB⟩ := hrel
    have hres := heap_on hB (heap_on H1.out.2.1 HB.out.2.1)
    have hBW : Below W.heap.size W wr := below_on (below_on HB.out.1 H1.out.2.1) hB
    have hrw : RdTs wr (.slice p n cap) ts := H1.out.1.later hB
    have HI := Lib.hid (And.intro hno (And.intro hB hBW))
    have hWS : W.heap.size ≤ S := Nat.le_of_eq HB.out.2.2.2
    clear hno hB hBW
    by_cases hlt : j < n
    · have hjl : j < ts.length := by rw [H1.out.2.2]; exact hlt
      obtain ⟨b, off, cv, dv, rfl, hb, c0, c1, c2, c3, hrt⟩ := RdTs.tab hrw hjl
      obtain ⟨t, htj⟩ : ∃ t, ts[j] = t := ⟨_, rfl⟩
      rw [htj] at c0 c2 hrt
      obtain ⟨p1, cp1, rfl, _, _⟩ := hrt.1.slice
      obtain ⟨p2, cp2, rfl, _, _⟩ := hrt.2.slice
      generalize hm1 : t.cols.length = m1 at *
      generalize hm2 : t.deps.length = m2 at *
      have HT := Lib.hid (And.intro htj hrt)
      clear htj hrt hrw hm1 hm2
      cases hx : isT x t
      · have HX := Lib.hid hx
        have hx2 : (t.nm.toList == x.toList) = false := by rw [eqS_toList]; exact hx
        clear hx hres
        go_wp2_with fail
        go_roundg (n - j)
        case measure => omega
        case rel =>
          refine ⟨j + 1, by go_num, by omega, by omega, fun i hi hij => ?_, HI.out.2.1.alloc HI.out.2.1.size _⟩
          by_cases e : i = j
          · subst e; rw [HT.out.1]; exact HX.out
          · exact HI.out.1 i hi (by omega)
      · have HX := Lib.hid hx
        have hx2 : (t.nm.toList == x.toList) = true := by rw [eqS_toList]; exact hx
        have z0 := nd_cell hres 0
        have z1 := nd_cell hres 1
        have z2 := nd_cell hres 2
        have z3 := nd_cell hres 3
        have zf : ∀ i, wr.frozen? ⟨S, i, none⟩ = false := fun i => frozen_of_row wr S i _ _ hres
        have hlS : S < wr.heap.size := lt_of_heap hres
        have HZ := Lib.hid hres
        clear hx hres
        go_wp2_with fail
        have hS4 := alloc_old (u := boxT t.nm (.slice p1 m1 cp1) t.key (.slice p2 m2 cp2)) (set4 HZ.out (.string t.nm) (.slice p1 m1 cp1) (.string t.key) (.slice p2 m2 cp2))
        have hBx := below_set4 HI.out.2.2 hWS (.string t.nm) (.slice p1 m1 cp1) (.string t.key) (.slice p2 m2 cp2)
        have hBy := hBx.alloc hBx.size (boxT t.nm (.slice p1 m1 cp1) t.key (.slice p2 m2 cp2))
        have hKp : Kp wr (((((wr.setCell _ _).setCell _ _).setCell _ _).setCell _ _).alloc (boxT t.nm (.slice p1 m1 cp1) t.key (.slice p2 m2 cp2))) := (kp_set4 HZ.out (.inr rfl) (.string t.nm) (.slice p1 m1 cp1) (.string t.key) (.slice p2 m2 cp2)).trans (.below (below_alloc _ _))
        generalize ((((wr.setCell _ _).setCell _ _).setCell _ _).setCell _ _).alloc _ = wz at hS4 hBy hKp ⊢
        have y0 := nd_cell hS4 0
        have y1 := nd_cell hS4 1
        have y2 := nd_cell hS4 2
        have y3 := nd_cell hS4 3
        obtain ⟨f1, f2, _⟩ := first_at (p := isT x) ts j (by rw [H1.out.2.2]; exact hlt) (by rw [HT.out.1]; exact HX.out) (fun i hi => HI.out.1 i _ hi)
        refine bodyPost_ret (v := .tuple #[.agg #[.string t.nm, (.slice p1 m1 cp1), .string t.key, (.slice p2 m2 cp2)], .bool true]) (by simp [results, Tryz.results68, go_sem, y0, y1, y2, y3]) rfl ?_
        have e1 : orT (findT ts x) = t := by unfold orT findT; rw [f1, HT.out.1]; rfl
        have e2 : hasT ts x = true := f2
        rw [e1, e2]
        exact ⟨_, _, _, _, _, _, rfl, HT.out.2.kp hKp, hBy⟩
    · have z0 := nd_cell hres 0
      have z1 := nd_cell hres 1
      have z2 := nd_cell hres 2
      have z3 := nd_cell hres 3
      have zf : ∀ i, wr.frozen? ⟨S, i, none⟩ = false := fun i => frozen_of_row wr S i _ _ hres
      have hlS : S < wr.heap.size := lt_of_heap hres
      have HZ := Lib.hid hres
      clear hres hrw
      go_wp2_with fail
      have hS4 := set4 HZ.out (.string e0) (.slice none 0 0) (.string e0) (.slice none 0 0)
      have hBx := below_set4 HI.out.2.2 hWS (.string e0) (.slice none 0 0) (.string e0) (.slice none 0 0)
      generalize (((wr.setCell _ _).setCell _ _).setCell _ _).setCell _ _ = wz at hS4 hBx ⊢
      have y0 := nd_cell hS4 0
      have y1 := nd_cell hS4 1
      have y2 := nd_cell hS4 2
      have y3 := nd_cell hS4 3
      obtain ⟨f1, f2, _⟩ := none_at (p := isT x) ts (fun i hi => HI.out.1 i hi (by have := H1.out.2.2; omega))
      refine bodyPost_ret (v := .tuple #[.agg #[.string e0, (.slice none 0 0), .string e0, (.slice none 0 0)], .bool false]) (by simp [results, Tryz.results68, go_sem, y0, y1, y2, y3]) rfl ?_
      have e1 : orT (findT ts x) = zeroT := by unfold orT findT; rw [f1]; rfl
      have e2 : hasT ts x = false := f2
      rw [e1, e2]
      exact ⟨_, _, _, _, _, _, rfl, zeroT_rd _, hBx⟩
end Go.Proofs.YtmfkkpogmmoflaaGreat
namespace Go.Proofs.YtmfkkpogmmoflaaGreat
open Go Go.RowKit Go.Proofs

theorem hasT_find (ts : List T) (x : ByteArray) : hasT ts x = (findT ts x).isSome := find_any ts
theorem hasC_find (l : List C) (x : ByteArray) : hasC l x = (colOf l x).isSome := find_any l
set_option maxRecDepth 100000 in
theorem sfree_any {pv : Value} {ts : List T} {x : ByteArray} {W : World} (h : SchP W pv ts) (hs : x.size ≤ maxLen) : Calls Tryz.prog 57 #[pv, .string x] W fun e w' => e = .returned (.bool (free ts x)) ∧ Below W.heap.size W w' := by
  have hf := sfind_any (x := x) h
  cases hn : named x
  · have HG : Hid (free ts x = false) := Lib.hid (by unfold free; rw [hn]; rfl)
    have hv := fun w => valName_is hn w hs
    generalize hasT ts x = ok at hf
    generalize orT (findT ts x) = t at hf
    clear h hs hn
    go_enter Tryz.func57, Tryz.ntmps57
    go_wp2_with (first
      | (go_at_call 68; (with_reducible refine hf.mono ?_); rintro e w1 ⟨p1, n1, c1, p2, n2, c2, rfl, hr, hb⟩)
      | (go_at_call 83; (with_reducible refine (hv _).mono ?_); rintro e w2 ⟨rfl, rfl⟩))
    go_ret
    exact ⟨ret_bool HG.out.symm, hb.alloc hb.size _⟩
  · have hv := fun w => valName_is hn w hs
    have HG : Hid (free ts x = !hasT ts x) := Lib.hid (by unfold free; rw [hn]; rfl)
    generalize hasT ts x = ok at hf HG
    generalize orT (findT ts x) = t at hf
    clear h hs hn
    go_enter Tryz.func57, Tryz.ntmps57
    go_wp2_with (first
      | (go_at_call 68; (with_reducible refine hf.mono ?_); rintro e w1 ⟨p1, n1, c1, p2, n2, c2, rfl, hr, hb⟩)
      | (go_at_call 83; (with_reducible refine (hv _).mono ?_); rintro e w2 ⟨rfl, rfl⟩))
    go_ret
    exact ⟨ret_bool HG.out.symm, hb.alloc hb.size _⟩

set_option maxRecDepth 100000 in
set_option maxHeartbeats 1000000 in
theorem leads_any {pv : Value} {ts : List T} {c : C} {W : World} (h : SchP W pv ts) : Calls Tryz.prog 62 #[pv, .agg #[.string c.nm, .int .i64 c.kd, .bool c.mu, .string c.tgt]] W fun e w' => e = .returned (.int .i64 (leads ts c)) ∧ Below W.heap.size W w' := by
  have hB0 := below_alloc W (.cells #[.string c.nm, .int .i64 c.kd, .bool c.mu, .string c.tgt] 54)
  have h0 := heap_alloc_new W (.cells #[.string c.nm, .int .i64 c.kd, .bool c.mu, .string c.tgt] 54)
  have hf := sfind_any (x := c.tgt) (h.later hB0)
  cases he : eqS c.tgt e0
  · have he2 : c.tgt.toList.isEmpty = false := by rw [eqS_e0]; exact he
    obtain ⟨S, hS⟩ : ∃ S, W.heap.size = S := ⟨_, rfl⟩
    have HS := Lib.hid hS
    obtain ⟨w0, hw0⟩ : ∃ w0, W.alloc (.cells #[.string c.nm, .int .i64 c.kd, .bool c.mu, .string c.tgt] 54) = w0 := ⟨_, rfl⟩
    rw [hw0] at hB0 h0 hf
    rw [hS] at h0
    have HB := Lib.hid (And.intro hB0 h0)
    have HW := Lib.hid hw0
    have y3 := nd_cell h0 3
    have hl0 := lt_of_heap h0
    rw [hasT_find] at hf
    have HF := Lib.hid he
    clear h hB0 h0 hw0 hS he
    cases hfind : findT ts c.tgt with
    | none =>
      rw [hfind] at hf
      have HG : Hid (leads ts c = 3) := Lib.hid (by unfold leads; rw [HF.out, hfind]; rfl)
      change Calls _ _ _ _ (GivesT zeroT false _) at hf
      generalize zeroT = t at hf
      go_enter Tryz.func62, Tryz.ntmps62
      go_upto_region 1 with fail
      rw [HW.out, HS.out]
      go_wp2_with (go_at_call 68; (with_reducible refine hf.mono ?_); rintro e w1 ⟨p1, n1, c1, p2, n2, c2, rfl, hr, hb⟩)
      go_ret
      exact ⟨ret_int HG.out.symm, (below_on HB.out.1 hb).alloc (below_on HB.out.1 hb).size _⟩
    | some t =>
      rw [hfind] at hf
      change Calls _ _ _ _ (GivesT t true _) at hf
      have hcol := fun (w : World) (v : Value) (hr : RdC w v t.cols) => column_any (x := t.key) hr
      rw [hasC_find] at hcol
      cases hcf : colOf t.cols t.key with
      | none =>
        have HG : Hid (leads ts c = 9) := Lib.hid (by unfold leads; rw [HF.out, hfind]; show (match colOf t.cols t.key with | none => (9 : Int) | some k => if k.kd = c.kd then 0 else 4) = 9; rw [hcf])
        simp only [hcf] at hcol
        change ∀ (w : World) (v : Value), RdC w v t.cols → Calls _ _ _ _ (fun e w' => e = .returned (.tuple #[.agg #[.string zeroC.nm, .int .i64 zeroC.kd, .bool zeroC.mu, .string zeroC.tgt], .bool false]) ∧ _) at hcol
        generalize zeroC = k at hcol
        clear hcf hfind
        go_enter Tryz.func62, Tryz.ntmps62
        go_upto_region 1 with fail
        rw [HW.out, HS.out]
        go_wp2_with (first
          | (go_at_call 68; (with_reducible refine hf.mono ?_); rintro e w1 ⟨p1, n1, c1, p2, n2, c2, rfl, hr, hb⟩; have hr1 := hr.1.later (below_alloc w1 (boxT t.nm (.slice p1 n1 c1) t.key (.slice p2 n2 c2))); have hb1 := (below_on HB.out.1 hb).alloc (below_on HB.out.1 hb).size (boxT t.nm (.slice p1 n1 c1) t.key (.slice p2 n2 c2)))
          | (go_at_call 87; (with_reducible refine (hcol _ _ hr1).mono ?_); rintro e w2 ⟨rfl, hb2⟩; have hb3 := below_on hb1 hb2))
        go_ret
        exact ⟨ret_int HG.out.symm, hb3.alloc hb3.size _⟩
      | some k =>
        have HG : Hid (leads ts c = if k.kd = c.kd then 0 else 4) := Lib.hid (by unfold leads; rw [HF.out, hfind]; show (match colOf t.cols t.key with | none => (9 : Int) | some k => if k.kd = c.kd then 0 else 4) = _; rw [hcf])
        simp only [hcf] at hcol
        change ∀ (w : World) (v : Value), RdC w v t.cols → Calls _ _ _ _ (fun e w' => e = .returned (.tuple #[.agg #[.string k.nm, .int .i64 k.kd, .bool k.mu, .string k.tgt], .bool true]) ∧ _) at hcol
        clear hcf hfind
        have h3 : ∀ {w1 w2 : World} {o : Obj}, Below w0.heap.size w0 w1 → Below (w1.alloc o).heap.size (w1.alloc o) w2 → S < w2.heap.size ∧ w2.cell? ⟨S, 1, none⟩ = some (.int .i64 c.kd) := fun {w1 w2 o} ha hb => by
          have := heap_on hb (heap_on (below_alloc w1 o) (heap_on ha HB.out.2))
          exact ⟨lt_of_heap this, nd_cell this 1⟩
        by_cases hk : k.kd = c.kd
        · have e4 : (k.kd != c.kd) = false := by simp [hk]
          rw [if_pos hk] at HG
          clear hk
          go_enter Tryz.func62, Tryz.ntmps62
          go_upto_region 1 with fail
          rw [HW.out, HS.out]
          go_wp2_with (first
            | (go_at_call 68; (with_reducible refine hf.mono ?_); rintro e w1 ⟨p1, n1, c1, p2, n2, c2, rfl, hr, hb⟩; have hr1 := hr.1.later (below_alloc w1 (boxT t.nm (.slice p1 n1 c1) t.key (.slice p2 n2 c2))); have hb1 := (below_on HB.out.1 hb).alloc (below_on HB.out.1 hb).size (boxT t.nm (.slice p1 n1 c1) t.key (.slice p2 n2 c2)))
            | (go_at_call 87; (with_reducible refine (hcol _ _ hr1).mono ?_); rintro e w2 ⟨rfl, hb2⟩; obtain ⟨z0, z1⟩ := h3 hb hb2; have hb3 := below_on hb1 hb2))
          go_ret
          exact ⟨ret_int HG.out.symm, hb3.alloc hb3.size _⟩
        · have e4 : (k.kd != c.kd) = true := by simp [hk]
          rw [if_neg hk] at HG
          clear hk
          go_enter Tryz.func62, Tryz.ntmps62
          go_upto_region 1 with fail
          rw [HW.out, HS.out]
          go_wp2_with (first
            | (go_at_call 68; (with_reducible refine hf.mono ?_); rintro e w1 ⟨p1, n1, c1, p2, n2, c2, rfl, hr, hb⟩; have hr1 := hr.1.later (below_alloc w1 (boxT t.nm (.slice p1 n1 c1) t.key (.slice p2 n2 c2))); have hb1 := (below_on HB.out.1 hb).alloc (below_on HB.out.1 hb).size (boxT t.nm (.slice p1 n1 c1) t.key (.slice p2 n2 c2)))
            | (go_at_call 87; (with_reducible refine (hcol _ _ hr1).mono ?_); rintro e w2 ⟨rfl, hb2⟩; obtain ⟨z0, z1⟩ := h3 hb hb2; have hb3 := below_on hb1 hb2))
          go_ret
          exact ⟨ret_int HG.out.symm, hb3.alloc hb3.size _⟩
  · have he2 : c.tgt.toList.isEmpty = true := by rw [eqS_e0]; exact he
    have HG : Hid (leads ts c = 0) := Lib.hid (by unfold leads; rw [he]; rfl)
    clear h hf h0 he
    go_enter Tryz.func62, Tryz.ntmps62
    go_wp2_with fail
    go_ret
    exact ⟨ret_int HG.out.symm, hB0⟩
end Go.Proofs.YtmfkkpogmmoflaaGreat
namespace Go.Proofs.YtmfkkpogmmoflaaGreat
open Go Go.RowKit Go.Proofs

theorem RdT.c {W : World} {cv dv : Value} {t : T} (h : RdT W cv dv t) : RdC W cv t.cols := h.1
theorem RdT.d {W : World} {cv dv : Value} {t : T} (h : RdT W cv dv t) : RdD W dv t.deps := h.2
structure KeepM (B : Nat) (W0 : World) (S0 : Nat) (t : T) (cv dv : Value) (sb : Nat) (ts : List T) (w : World) : Prop where
  tb : KeepT B W0 S0 t cv dv w
  sch : Sch w sb ts
theorem KeepM.on {B : Nat} {W0 : World} {S0 : Nat} {t : T} {cv dv : Value} {sb : Nat} {ts : List T} {w w' : World} (h : KeepM B W0 S0 t cv dv sb ts w) (hb : Below w.heap.size w w') : KeepM B W0 S0 t cv dv sb ts w' := ⟨h.tb.on hb, h.sch.later hb⟩
theorem Sch.p {W : World} {sb : Nat} {ts : List T} (h : Sch W sb ts) : SchP W (Value.pointer (some ⟨sb, 0, none⟩)) ts := .inr ⟨sb, rfl, h⟩
theorem fits_is {t : T} {cv dv : Value} {W : World} {b : Bool} (h : RdT W cv dv t) (hb : fitsB t = b) : Calls Tryz.prog 56 #[.agg #[.string t.nm, cv, .string t.key, dv]] W fun e w' => e = .returned (.bool b) ∧ Below W.heap.size W w' := hb ▸ fits_any h
theorem free_is {pv : Value} {ts : List T} {x : ByteArray} {W : World} {b : Bool} (h : SchP W pv ts) (hs : x.size ≤ maxLen) (hb : free ts x = b) : Calls Tryz.prog 57 #[pv, .string x] W fun e w' => e = .returned (.bool b) ∧ Below W.heap.size W w' := hb ▸ sfree_any h hs
theorem namedCols_is {l : List C} {v : Value} {W : World} {b : Bool} (h : RdC W v l) (hs : SmC l) (hb : colsGood l = b) : Calls Tryz.prog 58 #[v] W fun e w' => e = .returned (.bool b) ∧ Below W.heap.size W w' := hb ▸ namedCols_any h hs
theorem namedKey_is {t : T} {cv dv : Value} {W : World} {b : Bool} (h : RdT W cv dv t) (hb : keyGood t = b) : Calls Tryz.prog 59 #[.agg #[.string t.nm, cv, .string t.key, dv]] W fun e w' => e = .returned (.bool b) ∧ Below W.heap.size W w' := hb ▸ namedKey_any h
theorem namedDeps_is {t : T} {cv dv : Value} {W : World} {b : Bool} (h : RdT W cv dv t) (hb : depsGood t.cols t.deps = b) : Calls Tryz.prog 60 #[.agg #[.string t.nm, cv, .string t.key, dv]] W fun e w' => e = .returned (.bool b) ∧ Below W.heap.size W w' := hb ▸ namedDeps_any h
theorem typed_is {l : List C} {v : Value} {W : World} {b : Bool} (h : RdC W v l) (hb : kindsGood l = b) : Calls Tryz.prog 61 #[v] W fun e w' => e = .returned (.bool b) ∧ Below W.heap.size W w' := hb ▸ typed_any h
theorem lim_fits {ts : List T} {t : T} (h : ts.length ≤ 8) : lim ts t = (decide (ts.length = 8) || !fitsB t) := by
  unfold lim fitsB
  rw [Bool.eq_iff_iff]
  simp only [Bool.or_eq_true, decide_eq_true_eq, Bool.not_eq_true', Bool.and_eq_false_iff, decide_eq_false_iff_not]
  omega

set_option maxRecDepth 100000 in
set_option maxHeartbeats 4000000 in
theorem may_any {t : T} {cv dv : Value} {sb : Nat} {ts : List T} {W : World} (h : RdT W cv dv t) (hs : Sch W sb ts) (hsm : Sm t) : Calls Tryz.prog 37 #[(Value.pointer (some ⟨sb, 0, none⟩)), .agg #[.string t.nm, cv, .string t.key, dv]] W fun e w' => e = .returned (.int .i64 (mayP ts t)) ∧ Below W.heap.size W w' := by
  have K0 := Lib.hid (show KeepM W.heap.size W W.heap.size t cv dv sb ts _ from ⟨KeepT.new h, hs.later (below_alloc W (boxT t.nm cv t.key dv))⟩)
  obtain ⟨pc, cc, hcv, hc1, hc2⟩ := h.1.slice
  obtain ⟨p, cap, hdv, _, _⟩ := h.2.slice
  obtain ⟨n, hn⟩ : ∃ n, t.cols.length = n := ⟨_, rfl⟩
  obtain ⟨nd, hnd⟩ : ∃ n, t.deps.length = n := ⟨_, rfl⟩
  obtain ⟨B, hB⟩ : ∃ B, W.heap.size = B := ⟨_, rfl⟩
  unfold maxLen at hc2
  rw [hnd] at hdv
  rw [hn] at hcv hc1
  subst hcv hdv
  rw [hB] at K0
  have HB := Lib.hid hB
  have HN := Lib.hid hn
  have SM := Lib.hid (And.intro hsm.1 hsm.2)
  have hl8 := hs.1
  obtain ⟨m, hm⟩ : ∃ m, ts.length = m := ⟨_, rfl⟩
  have hlim := lim_fits (t := t) hl8
  rw [hm] at hl8 hlim
  clear h hs hsm hn hnd hB
  go_enter Tryz.func37, Tryz.ntmps37
  go_upto_region 1 with fail
  obtain ⟨w0, hw0⟩ : ∃ w0, W.alloc (boxT t.nm (.slice pc n cc) t.key (.slice p nd cap)) = w0 := ⟨_, rfl⟩
  rw [HB.out, hw0]
  rw [hw0] at K0
  clear hw0
  obtain ⟨u00, u01, u02, u03, u04⟩ := K0.out.tb.cells
  obtain ⟨v0, v1⟩ := K0.out.sch.num
  rw [hm] at v1
  clear hm
  by_cases hm8 : m = 8
  · have hb8 : ((m : Int) == 8) = true := beq_iff_eq.2 (by omega)
    have HG : Hid (mayP ts t = 5) := Lib.hid (by unfold mayP; rw [hlim, decide_eq_true hm8]; rfl)
    clear hlim hm8
    go_wp2_with fail
    go_ret
    exact ⟨ret_int HG.out.symm, HB.out ▸ K0.out.tb.below⟩
  have hb8 : ((m : Int) == 8) = false := beq_eq_false_iff_ne.2 (by omega)
  rw [decide_eq_false hm8, Bool.false_or] at hlim
  clear hm8 hl8
  cases hf1 : fitsB t
  · have HG : Hid (mayP ts t = 5) := Lib.hid (by unfold mayP; rw [hlim, hf1]; rfl)
    clear hlim
    go_wp2_with (first
      | (go_at_call 56; (with_reducible refine (fits_is K0.out.tb.tab hf1).mono ?_); rintro e w1 ⟨rfl, hb1⟩; have K1 := Lib.hid (K0.out.on hb1); obtain ⟨u10, u11, u12, u13, u14⟩ := K1.out.tb.cells; clear hb1))
    go_ret
    exact ⟨ret_int (HG.out.symm), HB.out ▸ K1.out.tb.below⟩
  have HL : Hid (mayP ts t = if namesGood ts t = true then (if kindsGood t.cols = true then firstErr (t.cols.map (leads ts)) else 4) else 3) := Lib.hid (by unfold mayP; rw [hlim, hf1]; rfl)
  clear hlim
  cases hf2 : free ts t.nm
  · have HG : Hid (mayP ts t = 3) := Lib.hid (by rw [HL.out]; unfold namesGood; rw [hf2]; rfl)
    go_wp2_with (first
      | (go_at_call 56; (with_reducible refine (fits_is K0.out.tb.tab hf1).mono ?_); rintro e w1 ⟨rfl, hb1⟩; have K1 := Lib.hid (K0.out.on hb1); obtain ⟨u10, u11, u12, u13, u14⟩ := K1.out.tb.cells; clear hb1)
      | (go_at_call 57; (with_reducible refine (free_is K1.out.sch.p SM.out.1 hf2).mono ?_); rintro e w2 ⟨rfl, hb2⟩; have K2 := Lib.hid (K1.out.on hb2); obtain ⟨u20, u21, u22, u23, u24⟩ := K2.out.tb.cells; clear hb2))
    go_ret
    exact ⟨ret_int (HG.out.symm), HB.out ▸ K2.out.tb.below⟩
  cases hf3 : colsGood t.cols
  · have HG : Hid (mayP ts t = 3) := Lib.hid (by rw [HL.out]; unfold namesGood; rw [hf2, hf3]; rfl)
    go_wp2_with (first
      | (go_at_call 56; (with_reducible refine (fits_is K0.out.tb.tab hf1).mono ?_); rintro e w1 ⟨rfl, hb1⟩; have K1 := Lib.hid (K0.out.on hb1); obtain ⟨u10, u11, u12, u13, u14⟩ := K1.out.tb.cells; clear hb1)
      | (go_at_call 57; (with_reducible refine (free_is K1.out.sch.p SM.out.1 hf2).mono ?_); rintro e w2 ⟨rfl, hb2⟩; have K2 := Lib.hid (K1.out.on hb2); obtain ⟨u20, u21, u22, u23, u24⟩ := K2.out.tb.cells; clear hb2)
      | (go_at_call 58; (with_reducible refine (namedCols_is K2.out.tb.tab.c SM.out.2 hf3).mono ?_); rintro e w3 ⟨rfl, hb3⟩; have K3 := Lib.hid (K2.out.on hb3); obtain ⟨u30, u31, u32, u33, u34⟩ := K3.out.tb.cells; clear hb3))
    go_ret
    exact ⟨ret_int (HG.out.symm), HB.out ▸ K3.out.tb.below⟩
  cases hf4 : keyGood t
  · have HG : Hid (mayP ts t = 3) := Lib.hid (by rw [HL.out]; unfold namesGood; rw [hf2, hf3, hf4]; rfl)
    go_wp2_with (first
      | (go_at_call 56; (with_reducible refine (fits_is K0.out.tb.tab hf1).mono ?_); rintro e w1 ⟨rfl, hb1⟩; have K1 := Lib.hid (K0.out.on hb1); obtain ⟨u10, u11, u12, u13, u14⟩ := K1.out.tb.cells; clear hb1)
      | (go_at_call 57; (with_reducible refine (free_is K1.out.sch.p SM.out.1 hf2).mono ?_); rintro e w2 ⟨rfl, hb2⟩; have K2 := Lib.hid (K1.out.on hb2); obtain ⟨u20, u21, u22, u23, u24⟩ := K2.out.tb.cells; clear hb2)
      | (go_at_call 58; (with_reducible refine (namedCols_is K2.out.tb.tab.c SM.out.2 hf3).mono ?_); rintro e w3 ⟨rfl, hb3⟩; have K3 := Lib.hid (K2.out.on hb3); obtain ⟨u30, u31, u32, u33, u34⟩ := K3.out.tb.cells; clear hb3)
      | (go_at_call 59; (with_reducible refine (namedKey_is K3.out.tb.tab hf4).mono ?_); rintro e w4 ⟨rfl, hb4⟩; have K4 := Lib.hid (K3.out.on hb4); obtain ⟨u40, u41, u42, u43, u44⟩ := K4.out.tb.cells; clear hb4))
    go_ret
    exact ⟨ret_int (HG.out.symm), HB.out ▸ K4.out.tb.below⟩
  cases hf5 : depsGood t.cols t.deps
  · have HG : Hid (mayP ts t = 3) := Lib.hid (by rw [HL.out]; unfold namesGood; rw [hf2, hf3, hf4, hf5]; rfl)
    go_wp2_with (first
      | (go_at_call 56; (with_reducible refine (fits_is K0.out.tb.tab hf1).mono ?_); rintro e w1 ⟨rfl, hb1⟩; have K1 := Lib.hid (K0.out.on hb1); obtain ⟨u10, u11, u12, u13, u14⟩ := K1.out.tb.cells; clear hb1)
      | (go_at_call 57; (with_reducible refine (free_is K1.out.sch.p SM.out.1 hf2).mono ?_); rintro e w2 ⟨rfl, hb2⟩; have K2 := Lib.hid (K1.out.on hb2); obtain ⟨u20, u21, u22, u23, u24⟩ := K2.out.tb.cells; clear hb2)
      | (go_at_call 58; (with_reducible refine (namedCols_is K2.out.tb.tab.c SM.out.2 hf3).mono ?_); rintro e w3 ⟨rfl, hb3⟩; have K3 := Lib.hid (K2.out.on hb3); obtain ⟨u30, u31, u32, u33, u34⟩ := K3.out.tb.cells; clear hb3)
      | (go_at_call 59; (with_reducible refine (namedKey_is K3.out.tb.tab hf4).mono ?_); rintro e w4 ⟨rfl, hb4⟩; have K4 := Lib.hid (K3.out.on hb4); obtain ⟨u40, u41, u42, u43, u44⟩ := K4.out.tb.cells; clear hb4)
      | (go_at_call 60; (with_reducible refine (namedDeps_is K4.out.tb.tab hf5).mono ?_); rintro e w5 ⟨rfl, hb5⟩; have K5 := Lib.hid (K4.out.on hb5); obtain ⟨u50, u51, u52, u53, u54⟩ := K5.out.tb.cells; clear hb5))
    go_ret
    exact ⟨ret_int (HG.out.symm), HB.out ▸ K5.out.tb.below⟩
  cases hf6 : kindsGood t.cols
  · have HG : Hid (mayP ts t = 4) := Lib.hid (by rw [HL.out]; unfold namesGood; rw [hf2, hf3, hf4, hf5, hf6]; rfl)
    go_wp2_with (first
      | (go_at_call 56; (with_reducible refine (fits_is K0.out.tb.tab hf1).mono ?_); rintro e w1 ⟨rfl, hb1⟩; have K1 := Lib.hid (K0.out.on hb1); obtain ⟨u10, u11, u12, u13, u14⟩ := K1.out.tb.cells; clear hb1)
      | (go_at_call 57; (with_reducible refine (free_is K1.out.sch.p SM.out.1 hf2).mono ?_); rintro e w2 ⟨rfl, hb2⟩; have K2 := Lib.hid (K1.out.on hb2); obtain ⟨u20, u21, u22, u23, u24⟩ := K2.out.tb.cells; clear hb2)
      | (go_at_call 58; (with_reducible refine (namedCols_is K2.out.tb.tab.c SM.out.2 hf3).mono ?_); rintro e w3 ⟨rfl, hb3⟩; have K3 := Lib.hid (K2.out.on hb3); obtain ⟨u30, u31, u32, u33, u34⟩ := K3.out.tb.cells; clear hb3)
      | (go_at_call 59; (with_reducible refine (namedKey_is K3.out.tb.tab hf4).mono ?_); rintro e w4 ⟨rfl, hb4⟩; have K4 := Lib.hid (K3.out.on hb4); obtain ⟨u40, u41, u42, u43, u44⟩ := K4.out.tb.cells; clear hb4)
      | (go_at_call 60; (with_reducible refine (namedDeps_is K4.out.tb.tab hf5).mono ?_); rintro e w5 ⟨rfl, hb5⟩; have K5 := Lib.hid (K4.out.on hb5); obtain ⟨u50, u51, u52, u53, u54⟩ := K5.out.tb.cells; clear hb5)
      | (go_at_call 61; (with_reducible refine (typed_is K5.out.tb.tab.c hf6).mono ?_); rintro e w6 ⟨rfl, hb6⟩; have K6 := Lib.hid (K5.out.on hb6); obtain ⟨u60, u61, u62, u63, u64⟩ := K6.out.tb.cells; clear hb6))
    go_ret
    exact ⟨ret_int (HG.out.symm), HB.out ▸ K6.out.tb.below⟩
  have HG : Hid (mayP ts t = firstErr (t.cols.map (leads ts))) := Lib.hid (by rw [HL.out]; unfold namesGood; rw [hf2, hf3, hf4, hf5, hf6]; rfl)
  go_wp2_with (first
    | (go_at_call 56; (with_reducible refine (fits_is K0.out.tb.tab hf1).mono ?_); rintro e w1 ⟨rfl, hb1⟩; have K1 := Lib.hid (K0.out.on hb1); obtain ⟨u10, u11, u12, u13, u14⟩ := K1.out.tb.cells; clear hb1)
    | (go_at_call 57; (with_reducible refine (free_is K1.out.sch.p SM.out.1 hf2).mono ?_); rintro e w2 ⟨rfl, hb2⟩; have K2 := Lib.hid (K1.out.on hb2); obtain ⟨u20, u21, u22, u23, u24⟩ := K2.out.tb.cells; clear hb2)
    | (go_at_call 58; (with_reducible refine (namedCols_is K2.out.tb.tab.c SM.out.2 hf3).mono ?_); rintro e w3 ⟨rfl, hb3⟩; have K3 := Lib.hid (K2.out.on hb3); obtain ⟨u30, u31, u32, u33, u34⟩ := K3.out.tb.cells; clear hb3)
    | (go_at_call 59; (with_reducible refine (namedKey_is K3.out.tb.tab hf4).mono ?_); rintro e w4 ⟨rfl, hb4⟩; have K4 := Lib.hid (K3.out.on hb4); obtain ⟨u40, u41, u42, u43, u44⟩ := K4.out.tb.cells; clear hb4)
    | (go_at_call 60; (with_reducible refine (namedDeps_is K4.out.tb.tab hf5).mono ?_); rintro e w5 ⟨rfl, hb5⟩; have K5 := Lib.hid (K4.out.on hb5); obtain ⟨u50, u51, u52, u53, u54⟩ := K5.out.tb.cells; clear hb5)
    | (go_at_call 61; (with_reducible refine (typed_is K5.out.tb.tab.c hf6).mono ?_); rintro e w6 ⟨rfl, hb6⟩; have K6 := Lib.hid (K5.out.on hb6); obtain ⟨u60, u61, u62, u63, u64⟩ := K6.out.tb.cells; clear hb6))
  clear hf1 hf2 hf3 hf4 hf5 hf6 HL u00 u01 u02 u03 u04 v0 v1 u10 u11 u12 u13 u14 u20 u21 u22 u23 u24 u30 u31 u32 u33 u34 u40 u41 u42 u43 u44 u50 u51 u52 u53 u54 u60 u61 u62 u63 u64 hb8 K1 K2 K3 K4 K5
  go_loopg [6, 7, 49] (n + 1) (fun gh _ _ jv w => ∃ (j : Nat), jv = .int .i64 (j : Int) ∧ j ≤ n ∧ n + 1 ≤ j + gh ∧ (∀ i (h : i < t.cols.length), i < j → leads ts t.cols[i] = 0) ∧ KeepM B W B t (.slice pc n cc) (.slice p nd cap) sb ts w)
  case atStart => exact ⟨0, rfl, Nat.zero_le _, by omega, fun i _ hi => by omega, K6.out⟩
  case round =>
    obtain ⟨j, rfl, hj, hg, hno, hK⟩ := hrel
    have HI := Lib.hid (And.intro hno hK)
    clear hno
    by_cases hlt : j < n
    · have hjl : j < t.cols.length := by rw [HN.out]; exact hlt
      obtain ⟨b, off, rfl, hb, c0, c1, c2, c3⟩ := RdC.col hK.tb.tab.1 hjl
      obtain ⟨c, hcj⟩ : ∃ c, t.cols[j] = c := ⟨_, rfl⟩
      rw [hcj] at c0 c1 c2 c3
      have HC := Lib.hid hcj
      have hle := leads_any (c := c) (hK.on (below_alloc wr (.cells #[.string c.nm, .int .i64 c.kd, .bool c.mu, .string c.tgt] 54))).sch.p
      clear hK hcj
      have hml : j < (t.cols.map (leads ts)).length := by rw [List.length_map]; exact hjl
      by_cases hz : leads ts c = 0
      · have HZ := Lib.hid hz
        rw [hz] at hle
        clear hz hml
        go_wp2_with (go_at_call 62; (with_reducible refine hle.mono ?_); rintro e w7 ⟨rfl, hb7⟩)
        go_roundg (n - j)
        case measure => omega
        case rel =>
          refine ⟨j + 1, by go_num, by omega, by omega, fun i hi hij => ?_, (HI.out.2.on (below_alloc wr _)).on hb7⟩
          by_cases e : i = j
          · subst e; rw [HC.out]; exact HZ.out
          · exact HI.out.1 i hi (by omega)
      · have hne : (leads ts c != 0) = true := by simp [hz]
        have HZ := Lib.hid hz
        clear hz
        obtain ⟨z, hzz⟩ : ∃ z, leads ts c = z := ⟨_, rfl⟩
        rw [hzz] at hle hne
        have HE : Hid (firstErr (t.cols.map (leads ts)) = z) := Lib.hid (by
          have := firstErr_at (t.cols.map (leads ts)) j hml (by rw [List.getElem_map, HC.out]; exact HZ.out) (fun i hi => by rw [List.getElem_map]; exact HI.out.1 i (by omega) hi)
          rw [this, List.getElem_map, HC.out]; exact hzz)
        clear hzz hml
        go_wp2_with (go_at_call 62; (with_reducible refine hle.mono ?_); rintro e w7 ⟨rfl, hb7⟩)
        go_ret
        exact ⟨ret_int (by rw [HG.out, HE.out]), HB.out ▸ ((HI.out.2.on (below_alloc wr _)).on hb7).tb.below⟩
    · go_wp2_with fail
      go_ret
      exact ⟨ret_int (by rw [HG.out]; exact (firstErr_none _ (fun i hi => by rw [List.getElem_map]; rw [List.length_map] at hi; exact HI.out.1 i hi (by have := HN.out; omega))).symm), HB.out ▸ HI.out.2.tb.below⟩
end Go.Proofs.YtmfkkpogmmoflaaGreat
