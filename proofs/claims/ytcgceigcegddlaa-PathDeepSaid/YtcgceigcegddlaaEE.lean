/- A Schema in memory; there, find. -/
import Derived.Test.YtcgceigcegddlaaDF
namespace Go.Proofs.Ytcgceigcegddlaa
open Go Go.RowKit Go.Proofs

/-- The cells of tables. -/
def TabsC (W : World) (xs : List Value) (ts : List T) : Prop := xs.length = ts.length * 4 ∧ ∀ j (h : j < ts.length), ∃ cv dv, xs[j * 4]? = some (.string ts[j].nm) ∧ xs[j * 4 + 1]? = some cv ∧ xs[j * 4 + 2]? = some (.string ts[j].key) ∧ xs[j * 4 + 3]? = some dv ∧ RdT W cv dv ts[j]
theorem TabsC.kp {W W' : World} {xs : List Value} {ts : List T} (h : TabsC W xs ts) (hk : Kp W W') : TabsC W' xs ts := ⟨h.1, fun j hj => by
  obtain ⟨cv, dv, h1, h2, h3, h4, h5⟩ := h.2 j hj
  exact ⟨cv, dv, h1, h2, h3, h4, h5.kp hk⟩⟩
theorem TabsC.nil (W : World) : TabsC W [] [] := ⟨rfl, fun j h => absurd h (Nat.not_lt_zero j)⟩
theorem TabsC.snoc {W : World} {xs : List Value} {ts : List T} (h : TabsC W xs ts) {t : T} {cv dv : Value} (ht : RdT W cv dv t) : TabsC W (xs ++ [.string t.nm, cv, .string t.key, dv]) (ts ++ [t]) := by
  refine ⟨by simp [h.1]; omega, fun j hj => ?_⟩
  by_cases e : j < ts.length
  · obtain ⟨cv, dv, h1, h2, h3, h4, h5⟩ := h.2 j e
    rw [List.getElem_append_left e]
    exact ⟨cv, dv, by rw [List.getElem?_append_left (by rw [h.1]; omega)]; exact h1, by rw [List.getElem?_append_left (by rw [h.1]; omega)]; exact h2, by rw [List.getElem?_append_left (by rw [h.1]; omega)]; exact h3, by rw [List.getElem?_append_left (by rw [h.1]; omega)]; exact h4, h5⟩
  · have e2 : j = ts.length := by simp at hj; omega
    subst e2
    have e3 : (ts ++ [t])[ts.length] = t := by simp
    rw [e3]
    refine ⟨cv, dv, ?_, ?_, ?_, ?_, ht⟩ <;> rw [List.getElem?_append_right (by rw [h.1]; omega), h.1] <;> simp
/-- A slice of tables that can be read. -/
def RdTs (W : World) (v : Value) (ts : List T) : Prop := ∃ p cap xs, v = .slice p ts.length cap ∧ ts.length ≤ cap ∧ cap ≤ maxLen ∧ (0 < ts.length → ∃ b off, p = some ⟨b, off, none⟩ ∧ b < W.heap.size ∧ ∀ j u, xs[j]? = some u → W.cell? ⟨b, off + j, none⟩ = some u) ∧ TabsC W xs ts
theorem RdTs.later {W W' : World} {v : Value} {ts : List T} (h : RdTs W v ts) (hb : Below W.heap.size W W') : RdTs W' v ts := by
  obtain ⟨p, cap, xs, h1, h2, h3, h4, h5⟩ := h
  refine ⟨p, cap, xs, h1, h2, h3, fun hn => ?_, h5.kp (.below hb)⟩
  obtain ⟨b, off, h6, h7, h8⟩ := h4 hn
  exact ⟨b, off, h6, Nat.lt_of_lt_of_le h7 hb.size, fun j u hj => (World.cell?_of_block (w := W) (hb.block b h7)).trans (h8 j u hj)⟩
theorem RdTs.slice {W : World} {v : Value} {ts : List T} (h : RdTs W v ts) : ∃ p cap, v = .slice p ts.length cap ∧ ts.length ≤ cap ∧ cap ≤ maxLen := by
  obtain ⟨p, cap, xs, h1, h2, h3, h4, h5⟩ := h
  exact ⟨p, cap, h1, h2, h3⟩
theorem RdTs.nil (W : World) : RdTs W (.slice none 0 0) [] := ⟨none, 0, [], rfl, Nat.le_refl _, Nat.zero_le _, fun h => absurd h (Nat.lt_irrefl _), TabsC.nil W⟩
theorem RdTs.tab {W : World} {p : Option Addr} {n cap : Nat} {ts : List T} (h : RdTs W (.slice p n cap) ts) {i : Nat} (hi : i < ts.length) : ∃ b off cv dv, p = some ⟨b, off, none⟩ ∧ b < W.heap.size ∧
    W.cell? ⟨b, off + i * 4, none⟩ = some (.string ts[i].nm) ∧ W.cell? ⟨b, off + i * 4 + 1, none⟩ = some cv ∧ W.cell? ⟨b, off + i * 4 + 2, none⟩ = some (.string ts[i].key) ∧ W.cell? ⟨b, off + i * 4 + 3, none⟩ = some dv ∧ RdT W cv dv ts[i] := by
  obtain ⟨p', cap', xs, h1, h2, h3, h4, h5⟩ := h
  obtain ⟨rfl, rfl, rfl⟩ := Value.slice.inj h1
  obtain ⟨b, off, h6, h7, h8⟩ := h4 (by omega)
  obtain ⟨cv, dv, c0, c1, c2, c3, c4⟩ := h5.2 i hi
  exact ⟨b, off, cv, dv, h6, h7, h8 _ _ c0, by rw [Nat.add_assoc]; exact h8 _ _ c1, by rw [Nat.add_assoc]; exact h8 _ _ c2, by rw [Nat.add_assoc]; exact h8 _ _ c3, c4⟩
/-- A Schema of the tables ts, at sb. -/
def Sch (W : World) (sb : Nat) (ts : List T) : Prop := ts.length ≤ 8 ∧ ∃ xs rest, W.heap[sb]? = some (.cells (xs ++ (rest ++ [.int .i64 ts.length])).toArray 74) ∧ xs.length + rest.length = 32 ∧ TabsC W xs ts
theorem Sch.later {W W' : World} {sb : Nat} {ts : List T} (h : Sch W sb ts) (hb : Below W.heap.size W W') : Sch W' sb ts := by
  obtain ⟨h0, xs, rest, h1, h2, h3⟩ := h
  exact ⟨h0, xs, rest, heap_on hb h1, h2, h3.kp (.below hb)⟩
theorem Sch.num {W : World} {sb : Nat} {ts : List T} (h : Sch W sb ts) : sb < W.heap.size ∧ W.cell? ⟨sb, 32, none⟩ = some (.int .i64 ts.length) := by
  obtain ⟨h0, xs, rest, h1, h2, h3⟩ := h
  refine ⟨lt_of_heap h1, ?_⟩
  rw [nd_cell h1, List.getElem?_toArray, List.getElem?_append_right (by omega), List.getElem?_append_right (by omega), show 32 - xs.length - rest.length = 0 by omega]
  rfl
theorem Sch.tabs {W : World} {sb : Nat} {ts : List T} (h : Sch W sb ts) : RdTs W (.slice (some ⟨sb, 0, none⟩) ts.length 8) ts := by
  obtain ⟨h0, xs, rest, h1, h2, h3⟩ := h
  refine ⟨_, 8, xs, rfl, h0, by unfold maxLen; omega, fun _ => ⟨sb, 0, rfl, lt_of_heap h1, fun j u hj => ?_⟩, h3⟩
  have hl : j < xs.length := (List.getElem?_eq_some_iff.1 hj).1
  rw [nd_cell h1, Nat.zero_add, List.getElem?_toArray, List.getElem?_append_left hl]
  exact hj
/-- A *Schema, nil or not. -/
def SchP (W : World) (pv : Value) (ts : List T) : Prop := (pv = .pointer none ∧ ts = []) ∨ ∃ sb, pv = (Value.pointer (some ⟨sb, 0, none⟩)) ∧ Sch W sb ts
theorem SchP.later {W W' : World} {pv : Value} {ts : List T} (h : SchP W pv ts) (hb : Below W.heap.size W W') : SchP W' pv ts := by
  rcases h with h | ⟨sb, h1, h2⟩
  · exact .inl h
  · exact .inr ⟨sb, h1, h2.later hb⟩

theorem slice57 (sb n : Nat) (h : n ≤ 8) (w : World) : (Instr.sliceAt 72 (Value.pointer (some ⟨sb, 0, none⟩)) none (some (.int .i64 n)) none).run Try.prog w = .ok (.slice (some ⟨sb, 0, none⟩) n 8) w := by
  have hl : Try.prog.arrayLen 72 = 8 := by kernel_rfl
  have he : Try.prog.elem 72 = 53 := by kernel_rfl
  rw [run_sliceAt_array_h w 72 ⟨sb, 0, none⟩ (by kernel_rfl) .i64 (n : Int) (by omega) (by rw [hl]; omega), hl, he]
  go_simp
set_option maxRecDepth 100000 in
theorem there_any {pv : Value} {ts : List T} {W : World} (h : SchP W pv ts) : Calls Try.prog 66 #[pv] W fun e w' => ∃ v, e = .returned v ∧ RdTs w' v ts ∧ Below W.heap.size W w' := by
  rcases h with ⟨rfl, rfl⟩ | ⟨sb, rfl, h⟩
  · go_enter Try.func66, Try.ntmps66
    go_wp2_with fail
    go_ret
    exact ⟨_, rfl, RdTs.nil W, Below.refl _ _⟩
  · have HS := Lib.hid h
    have h8 := h.1
    obtain ⟨n, hn⟩ : ∃ n, ts.length = n := ⟨_, rfl⟩
    rw [hn] at h8
    have HN := Lib.hid hn
    clear h hn
    go_enter Try.func66, Try.ntmps66
    go_upto_region 3 with fail
    refine Par.wp_region_par 9 [(Value.pointer (some ⟨sb, 0, none⟩)), (Value.pointer (some ⟨sb, 0, none⟩)), (Value.pointer (some ⟨sb, 0, none⟩)), (Value.pointer (some ⟨sb, 0, none⟩)), (Value.pointer (some ⟨sb, 0, none⟩)), (Value.pointer (some ⟨sb, 32, none⟩)), .int .i64 n, .slice (some ⟨sb, 0, none⟩) n 8, .slice (some ⟨sb, 0, none⟩) n 8] (fun w => Sch w sb ts ∧ Below W.heap.size W w) ?A1 ?hm1 ?hB1 ?hA1 (⟨HS.out.later (below_drewN W 1), below_drewN W 1⟩) ?hop1 ?hT1
    case hm1 => kernel_rfl
    case hB1 => kernel_rfl
    case hA1 =>
      simp only [Par.putA, Par.dstAt, Act.put, List.getElem?_toArray, List.getElem?_cons_zero, List.getElem?_cons_succ, Option.bind_some, List.setIfInBounds_toArray, List.set_cons_zero, List.set_cons_succ, List.getD_cons_zero, List.getD_cons_succ]
      rfl
    case hop1 =>
      simp only [List.take_succ_cons, List.take_zero, Par.GiveAll, and_true]
      refine ⟨fun w' hR => ?_, fun w' hR => ?_, fun w' hR => ?_, fun w' hR => ?_, fun w' hR => ?_, fun w' hR => ?_, fun w' hR => ?_, fun w' hR => ?_, fun w' hR => ?_⟩
      · have HR := Lib.hid hR
        clear hR
        simp only [Par.Gives]
        go_simp
        all_goals exact HR.out
      · have HR := Lib.hid hR
        clear hR
        simp only [Par.Gives]
        go_simp
        all_goals exact HR.out
      · have HR := Lib.hid hR
        clear hR
        simp only [Par.Gives]
        go_simp
        all_goals exact HR.out
      · have HR := Lib.hid hR
        clear hR
        simp only [Par.Gives]
        go_simp
        all_goals exact HR.out
      · have HR := Lib.hid hR
        clear hR
        simp only [Par.Gives]
        go_simp
        all_goals exact HR.out
      · have HR := Lib.hid hR
        clear hR
        simp only [Par.Gives]
        go_simp
        all_goals exact HR.out
      · have HR := Lib.hid hR
        have k := HN.out ▸ hR.1.num.2
        clear hR
        simp only [Par.Gives]
        go_simp
        all_goals exact HR.out
      · have HR := Lib.hid hR
        have k := slice57 sb n h8 w'
        clear hR
        simp only [Par.Gives]
        go_simp
        all_goals exact HR.out
      · have HR := Lib.hid hR
        clear hR
        simp only [Par.Gives]
        go_simp
        all_goals exact HR.out
    case hT1 =>
      intro w' hR
      simp only [List.drop_succ_cons, List.drop_nil]
      go_wp2_with fail
      go_ret
      exact ⟨_, rfl, HN.out ▸ hR.1.tabs, hR.2⟩
def zeroT : T := ⟨e0, [], e0, []⟩
def orT (o : Option T) : T := o.getD zeroT
/-- A block of tables, or of a Schema, is written. -/
theorem kp_set4 {x : World} {b : Nat} {cur : Array Value} {e : TypeId} (h : x.heap[b]? = some (.cells cur e)) (he : e = 74 ∨ e = 53) (a c d f : Value) : Kp x ((((x.setCell ⟨b, 0, none⟩ a).setCell ⟨b, 1, none⟩ c).setCell ⟨b, 2, none⟩ d).setCell ⟨b, 3, none⟩ f) := by
  intro q cur' e' m hq h1 h2
  have hne : q ≠ b := by
    rintro rfl
    rw [h] at hq
    cases hq
    rcases he with rfl | rfl
    · exact h1 rfl
    · exact h2 rfl
  have hs : ∀ (y : World) (i : Nat) (u : Value), (y.setCell ⟨b, i, none⟩ u).heap[q]? = y.heap[q]? := fun y i u => heap_setCell_other y ⟨b, i, none⟩ q u hne
  rw [hs, hs, hs, hs]
  exact hq
theorem zeroT_rd (W : World) : RdT W (.slice none 0 0) (.slice none 0 0) zeroT :=
  ⟨⟨rfl, none, 0, rfl, Nat.le_refl _, Nat.zero_le _, fun a h => (by cases h), fun h => absurd h (Nat.lt_irrefl _)⟩, [], rfl, ⟨rfl, none, 0, rfl, Nat.le_refl _, Nat.zero_le _, fun a h => (by cases h), fun h => absurd h (Nat.lt_irrefl _)⟩, fun j h => absurd h (Nat.not_lt_zero j)⟩
/-- A table comes, and whether it is there. -/
def GivesT (t : T) (ok : Bool) (W : World) (e : Ending) (w' : World) : Prop := ∃ p1 n1 c1 p2 n2 c2, e = .returned (.tuple #[.agg #[.string t.nm, .slice p1 n1 c1, .string t.key, .slice p2 n2 c2], .bool ok]) ∧ RdT w' (.slice p1 n1 c1) (.slice p2 n2 c2) t ∧ Below W.heap.size W w'

set_option maxRecDepth 100000 in
set_option maxHeartbeats 1000000 in
theorem sfind_any {pv : Value} {ts : List T} {x : ByteArray} {W : World} (h : SchP W pv ts) : Calls Try.prog 45 #[pv, .string x] W (GivesT (orT (findT ts x)) (hasT ts x) W) := by
  obtain ⟨S, hS⟩ : ∃ S, W.heap.size = S := ⟨_, rfl⟩
  have hB0 := below_alloc W (boxT e0 (.slice none 0 0) e0 (.slice none 0 0))
  have h0 := heap_alloc_new W (boxT e0 (.slice none 0 0) e0 (.slice none 0 0))
  have hz : (W.alloc (boxT e0 (.slice none 0 0) e0 (.slice none 0 0))).heap.size = S + 1 := by rw [World.size_alloc, hS]
  have hth := there_any (h.later hB0)
  obtain ⟨w0, hw0⟩ : ∃ w0, W.alloc (boxT e0 (.slice none 0 0) e0 (.slice none 0 0)) = w0 := ⟨_, rfl⟩
  rw [hw0] at hB0 h0 hth hz
  rw [hS] at h0
  have HB := Lib.hid (And.intro hB0 (And.intro h0 (And.intro hz hS)))
  clear h hB0 h0 hz
  have HW := Lib.hid hw0
  have HS := Lib.hid hS
  clear hw0 hS
  go_enter Try.func45, Try.ntmps45
  go_upto_region 1 with fail
  rw [HW.out, HS.out]
  go_wp2_with (go_at_call 66; (with_reducible refine hth.mono ?_); rintro e w1 ⟨v, rfl, hr, hb⟩; clear hth; obtain ⟨p, cap, hv, hc, hm⟩ := hr.slice; obtain ⟨n, hn⟩ : ∃ n, ts.length = n := ⟨_, rfl⟩; rw [hn] at hv hc; subst hv; have H1 := Lib.hid (And.intro hr (And.intro hb hn)); clear hr hb hn)
  unfold maxLen at hm
  go_loopg [11] (n + 1) (fun gh jv w => ∃ (j : Nat), jv = .int .i64 (j : Int) ∧ j ≤ n ∧ n + 1 ≤ j + gh ∧ (∀ i (h : i < ts.length), i < j → isT x ts[i] = false) ∧ Below w1.heap.size w1 w)
  case atStart => exact ⟨0, rfl, Nat.zero_le _, by omega, fun i _ hi => by omega, Below.refl _ _⟩
  case round =>
    obtain ⟨j, rfl, hj, hg, hno, hB⟩ := hrel
    have hres := heap_on hB (heap_on H1.out.2.1 HB.out.2.1)
    have hBW : Below W.heap.size W wr := below_on (below_on HB.out.1 H1.out.2.1) hB
    have hrw : RdTs wr (.slice p n cap) ts := H1.out.1.later hB
    have HI := Lib.hid (And.intro hno (And.intro hB hBW))
    have hWS : W.heap.size ≤ S := Nat.le_of_eq HB.out.2.2.2
    clear hno hB hBW
    by_cases hlt : j < n
    · have hjl : j < ts.length := by rw [H1.out.2.2]; exact hlt
      obtain ⟨b, off, cv, dv, rfl, hb, c0, c1, c2, c3, hrt⟩ := RdTs.tab hrw hjl
      obtain ⟨t, htj⟩ : ∃ t, ts[j] = t := ⟨_, rfl⟩
      rw [htj] at c0 c2 hrt
      obtain ⟨p1, cp1, rfl, _, _⟩ := hrt.1.slice
      obtain ⟨p2, cp2, rfl, _, _⟩ := hrt.2.slice
      generalize hm1 : t.cols.length = m1 at *
      generalize hm2 : t.deps.length = m2 at *
      have HT := Lib.hid (And.intro htj hrt)
      clear htj hrt hrw hm1 hm2
      cases hx : isT x t
      · have HX := Lib.hid hx
        have hx2 : (t.nm.toList == x.toList) = false := by rw [eqS_toList]; exact hx
        clear hx hres
        go_wp2_with fail
        go_roundg (n - j)
        case measure => omega
        case rel =>
          refine ⟨j + 1, by go_num, by omega, by omega, fun i hi hij => ?_, HI.out.2.1.alloc HI.out.2.1.size _⟩
          by_cases e : i = j
          · subst e; rw [HT.out.1]; exact HX.out
          · exact HI.out.1 i hi (by omega)
      · have HX := Lib.hid hx
        have hx2 : (t.nm.toList == x.toList) = true := by rw [eqS_toList]; exact hx
        have z0 := nd_cell hres 0
        have z1 := nd_cell hres 1
        have z2 := nd_cell hres 2
        have z3 := nd_cell hres 3
        have zf : ∀ i, wr.frozen? ⟨S, i, none⟩ = false := fun i => frozen_of_row wr S i _ _ hres
        have hlS : S < wr.heap.size := lt_of_heap hres
        have HZ := Lib.hid hres
        clear hx hres
        go_wp2_with fail
        have hS4 := alloc_old (u := boxT t.nm (.slice p1 m1 cp1) t.key (.slice p2 m2 cp2)) (set4 HZ.out (.string t.nm) (.slice p1 m1 cp1) (.string t.key) (.slice p2 m2 cp2))
        have hBx := below_set4 HI.out.2.2 hWS (.string t.nm) (.slice p1 m1 cp1) (.string t.key) (.slice p2 m2 cp2)
        have hBy := hBx.alloc hBx.size (boxT t.nm (.slice p1 m1 cp1) t.key (.slice p2 m2 cp2))
        have hKp : Kp wr (((((wr.setCell _ _).setCell _ _).setCell _ _).setCell _ _).alloc (boxT t.nm (.slice p1 m1 cp1) t.key (.slice p2 m2 cp2))) := (kp_set4 HZ.out (.inr rfl) (.string t.nm) (.slice p1 m1 cp1) (.string t.key) (.slice p2 m2 cp2)).trans (.below (below_alloc _ _))
        generalize ((((wr.setCell _ _).setCell _ _).setCell _ _).setCell _ _).alloc _ = wz at hS4 hBy hKp ⊢
        have y0 := nd_cell hS4 0
        have y1 := nd_cell hS4 1
        have y2 := nd_cell hS4 2
        have y3 := nd_cell hS4 3
        obtain ⟨f1, f2, _⟩ := first_at (p := isT x) ts j (by rw [H1.out.2.2]; exact hlt) (by rw [HT.out.1]; exact HX.out) (fun i hi => HI.out.1 i _ hi)
        refine bodyPost_ret (v := .tuple #[.agg #[.string t.nm, (.slice p1 m1 cp1), .string t.key, (.slice p2 m2 cp2)], .bool true]) (by simp [results, Try.results45, go_sem, y0, y1, y2, y3]) rfl ?_
        have e1 : orT (findT ts x) = t := by unfold orT findT; rw [f1, HT.out.1]; rfl
        have e2 : hasT ts x = true := f2
        rw [e1, e2]
        exact ⟨_, _, _, _, _, _, rfl, HT.out.2.kp hKp, hBy⟩
    · have z0 := nd_cell hres 0
      have z1 := nd_cell hres 1
      have z2 := nd_cell hres 2
      have z3 := nd_cell hres 3
      have zf : ∀ i, wr.frozen? ⟨S, i, none⟩ = false := fun i => frozen_of_row wr S i _ _ hres
      have hlS : S < wr.heap.size := lt_of_heap hres
      have HZ := Lib.hid hres
      clear hres hrw
      go_wp2_with fail
      have hS4 := set4 HZ.out (.string e0) (.slice none 0 0) (.string e0) (.slice none 0 0)
      have hBx := below_set4 HI.out.2.2 hWS (.string e0) (.slice none 0 0) (.string e0) (.slice none 0 0)
      generalize (((wr.setCell _ _).setCell _ _).setCell _ _).setCell _ _ = wz at hS4 hBx ⊢
      have y0 := nd_cell hS4 0
      have y1 := nd_cell hS4 1
      have y2 := nd_cell hS4 2
      have y3 := nd_cell hS4 3
      obtain ⟨f1, f2, _⟩ := none_at (p := isT x) ts (fun i hi => HI.out.1 i hi (by have := H1.out.2.2; omega))
      refine bodyPost_ret (v := .tuple #[.agg #[.string e0, (.slice none 0 0), .string e0, (.slice none 0 0)], .bool false]) (by simp [results, Try.results45, go_sem, y0, y1, y2, y3]) rfl ?_
      have e1 : orT (findT ts x) = zeroT := by unfold orT findT; rw [f1]; rfl
      have e2 : hasT ts x = false := f2
      rw [e1, e2]
      exact ⟨_, _, _, _, _, _, rfl, zeroT_rd _, hBx⟩
end Go.Proofs.Ytcgceigcegddlaa
