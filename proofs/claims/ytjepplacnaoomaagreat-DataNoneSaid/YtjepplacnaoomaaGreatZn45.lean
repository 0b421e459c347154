/- What stands at a way's end, in plain. What a nil DB says; Value and ByKey where they end at once. -/
import Derived.Test.YtjepplacnaoomaaGreatZn44
import Derived.Test.YtjepplacnaoomaaGreatZn40
import Derived.Test.YtjepplacnaoomaaGreatZn43
namespace Go.Proofs.YtjepplacnaoomaaGreat
open Go Go.RowKit Go.Proofs Co Co.S
/-- The table that a column leads to. -/
def tgtOf (ts : List T) (x y : ByteArray) : ByteArray := (orC (colOf (colsAt ts x) y)).tgt
/-- A table's rows, by its name. -/
def rowsAt (ts : List T) (As : List (List R1)) (x : ByteArray) : List R1 := (As[(ixT ts x).toNat]?).getD []
/-- What stands in a row. -/
def cellA (A : List R1) (k : Nat) (id : Int) : T3 := ((A.find? fun a => decide (a.1 = id)).map fun a => a.2.getD k z3).getD z3
def hasId (A : List R1) (id : Int) : Bool := A.any fun a => decide (a.1 = id)
def cellP (ts : List T) (As : List (List R1)) (x : ByteArray) (id : Int) (y : ByteArray) : T3 := cellA (rowsAt ts As x) (ixC (colsAt ts x) y).toNat id
/-- What stands at a way's end. -/
def valP (ts : List T) (As : List (List R1)) : ByteArray → Int → List ByteArray → T3
  | _, _, [] => z3
  | x, id, y :: r => if r.isEmpty = true then cellP ts As x id y else match byKeyP ts As (tgtOf ts x y) (cellP ts As x id y) with
    | none => z3
    | some i => valP ts As (tgtOf ts x y) i r
def valueP (ts : List T) (As : List (List R1)) (x : ByteArray) (id : Int) (p : List ByteArray) : T3 × Bool :=
  if (pcolL ts x p).2.2 = 0 ∧ hasId (rowsAt ts As x) id = true then (valP ts As x id p, true) else (z3, false)
section
variable {ts : List T} {As : List (List R1)} {x y : ByteArray} {id : Int} {p : List ByteArray} {j : Nat}
theorem drop_last (p : List ByteArray) {j : Nat} (hj : j < p.length) : (p.drop (j + 1)).isEmpty = true ↔ j + 1 = p.length := by
  constructor
  · intro h
    rw [List.isEmpty_iff] at h
    have := congrArg List.length h
    simp only [List.length_drop, List.length_nil] at this
    omega
  · intro h
    rw [List.drop_of_length_le (by omega)]; rfl
theorem valP_last (hj : j < p.length) (h : j + 1 = p.length) : valP ts As x id (p.drop j) = cellP ts As x id p[j] := by
  rw [List.drop_eq_getElem_cons hj, valP, if_pos ((drop_last p hj).2 h)]
theorem valP_none (hj : j < p.length) (h : j + 1 ≠ p.length) (hb : byKeyP ts As (tgtOf ts x p[j]) (cellP ts As x id p[j]) = none) : valP ts As x id (p.drop j) = z3 := by
  rw [List.drop_eq_getElem_cons hj, valP, if_neg (fun e => h ((drop_last p hj).1 e)), hb]
theorem valP_some (hj : j < p.length) (h : j + 1 ≠ p.length) {i : Int} (hb : byKeyP ts As (tgtOf ts x p[j]) (cellP ts As x id p[j]) = some i) : valP ts As x id (p.drop j) = valP ts As (tgtOf ts x p[j]) i (p.drop (j + 1)) := by
  rw [List.drop_eq_getElem_cons hj, valP, if_neg (fun e => h ((drop_last p hj).1 e)), hb]
/-- A way that may be: each of its columns is one, and leads on. -/
theorem pcol_ok (hj : j < p.length) (h : (pcol ts x (p.drop j)).2.2 = 0) : hasC (colsAt ts x) p[j] = true ∧ (j + 1 ≠ p.length → (pcol ts (tgtOf ts x p[j]) (p.drop (j + 1))).2.2 = 0) := by
  rw [pcol_at ts x p hj] at h
  split at h
  · rename_i h1
    refine ⟨h1, fun hne => ?_⟩
    rw [if_neg hne] at h
    split at h
    · exact absurd h (by decide)
    · exact h
  · exact absurd h (by decide)
/-- The table of a column that is one. -/
theorem hasC_at (h : hasC (colsAt ts x) y = true) : ∃ (j : Nat) (hj : j < ts.length), ts[j].nm = x ∧ ixT ts x = (j : Int) ∧ findT ts x = some ts[j] ∧ colsAt ts x = ts[j].cols ∧ ∃ k, k < ts[j].cols.length ∧ ixC ts[j].cols y = (k : Int) := by
  rcases ixT_cases ts x with ⟨_, _, h3⟩ | ⟨j, hj, h1, _, h3⟩
  · rw [colsAt, h3] at h
    simp [hasC, orT, zeroT] at h
  · have e : colsAt ts x = ts[j].cols := by rw [colsAt, h3]; rfl
    rw [e] at h
    rcases ixC_casesQ ts[j].cols y with ⟨_, h2, _⟩ | ⟨k, hk, h2, _⟩
    · rw [h2] at h; cases h
    · have hn : ts[j].nm = x := by
        have := List.find?_some (l := ts) (p := isT x) h3
        exact bytes_ext (by simpa [isT, eqS] using this)
      exact ⟨j, hj, hn, h1, h3, e, k, hk, h2⟩
theorem byRow_mem {A : List R1} {k : Nat} {v : T3} {i : Int} (h : byRow A k v = some i) : hasId A i = true := by
  unfold byRow at h
  cases hf : A.find? (fun a => decide (a.2.getD k z3 = v)) with
  | none => rw [hf] at h; cases h
  | some a =>
    rw [hf] at h
    simp only [Option.map_some, Option.some.injEq] at h
    unfold hasId
    rw [List.any_eq_true]
    exact ⟨a, List.mem_of_find?_eq_some hf, by simpa using h⟩
theorem byKeyP_mem {v : T3} {i : Int} (h : byKeyP ts As x v = some i) : hasId (rowsAt ts As x) i = true := by
  unfold byKeyP at h
  split at h
  · rename_i t A h1 h2
    rw [rowsAt, h2]
    split at h
    · cases h
    · split at h
      · cases h
      · split at h
        · cases h
        · exact byRow_mem h
  · cases h
theorem hasId_mem {A : List R1} {i : Int} : hasId A i = true ↔ ∃ a ∈ A, a.1 = i := by
  unfold hasId
  rw [List.any_eq_true]
  simp
theorem hasId_no {A : List R1} {i : Int} : hasId A i = false ↔ ∀ a ∈ A, a.1 ≠ i := by
  unfold hasId
  rw [List.any_eq_false]
  simp
/-- The first row with a number. -/
theorem cellA_of {A : List R1} {i : Int} (h : hasId A i = true) : ∃ a ∈ A, a.1 = i ∧ ∀ k, cellA A k i = a.2.getD k z3 := by
  unfold hasId at h
  have hs : (A.find? fun a => decide (a.1 = i)).isSome = true := List.find?_isSome.2 (List.any_eq_true.1 h)
  obtain ⟨a, ha⟩ := Option.isSome_iff_exists.1 hs
  refine ⟨a, List.mem_of_find?_eq_some ha, by simpa using List.find?_some ha, fun k => ?_⟩
  unfold cellA
  rw [ha]; rfl
theorem cellA_no {A : List R1} {i : Int} (h : hasId A i = false) (k : Nat) : cellA A k i = z3 := by
  have : A.find? (fun a => decide (a.1 = i)) = none := by
    rw [List.find?_eq_none]
    unfold hasId at h
    rw [List.any_eq_false] at h
    exact h
  unfold cellA
  rw [this]; rfl
end
end Go.Proofs.YtjepplacnaoomaaGreat
namespace Go.Proofs.YtjepplacnaoomaaGreat
open Go Go.RowKit Go.Proofs Co Co.S
set_option maxRecDepth 100000 in
set_option maxHeartbeats 1000000 in
theorem dschema_nil (W : World) : Calls Tryz.prog 30 #[.pointer none] W fun e w' => e = .returned (.pointer none) ∧ w' = W := by
  go_enter Tryz.func30, Tryz.ntmps30
  go_wp2_with fail
  go_ret
  exact ⟨rfl, rfl⟩
set_option maxRecDepth 100000 in
set_option maxHeartbeats 1000000 in
theorem dcopy_nil (W : World) : Calls Tryz.prog 17 #[.pointer none] W fun e w' => e = .returned (.pointer none) ∧ w' = W := by
  go_enter Tryz.func17, Tryz.ntmps17
  go_wp2_with fail
  go_ret
  exact ⟨rfl, rfl⟩
theorem sp_nil (W : World) : SchP (.map none) W (.pointer none) [] := .inl ⟨rfl, rfl⟩
set_option maxRecDepth 100000 in
set_option maxHeartbeats 1000000 in
theorem dtable_nil (x : ByteArray) (W : World) : Calls Tryz.prog 32 #[.pointer none, .string x] W fun e w' => e = .returned (.pointer none) ∧ Below W.heap.size W w' := by
  have hrows := drows_nil x W
  have hs := dschema_nil W
  have hfi := sFind_any (x := x) (sp_nil W) (by intro t ht; cases ht)
  rw [show hasT [] x = false from rfl] at hfi
  go_enter Tryz.func32, Tryz.ntmps32
  go_wp2_with (first
    | (go_at_call 56; (with_reducible refine hrows.mono ?_); rintro e w2 ⟨rfl, hw⟩; subst w2; clear hrows)
    | (go_at_call 30; (with_reducible refine hs.mono ?_); rintro e w2 ⟨rfl, hw⟩; subst w2; clear hs)
    | (go_at_call 55; (with_reducible refine hfi.mono ?_); rintro e w3 ⟨p1, n1, c1, p2, n2, c2, rfl, _, hb⟩; have H3 := Lib.hid (below_on hb (below_alloc w3 (.cells #[.string (orT (findT [] x)).nm, .slice p1 n1 c1, .string (orT (findT [] x)).key, .slice p2 n2 c2] 46))); clear hfi hb))
  go_ret
  exact ⟨rfl, H3.out⟩
set_option maxRecDepth 100000 in
set_option maxHeartbeats 1000000 in
theorem sadd_nil (nm key : ByteArray) (cv dv : Value) (W : World) : Calls Tryz.prog 72 #[.pointer none, .agg #[.string nm, cv, .string key, dv]] W fun e w' => e = .returned (.int .i64 6) ∧ Below W.heap.size W w' := by
  have hb := below_alloc W (.cells #[.string nm, cv, .string key, dv] 46)
  go_enter Tryz.func72, Tryz.ntmps72
  go_wp2_with fail
  go_ret
  exact ⟨rfl, hb⟩
set_option maxRecDepth 100000 in
set_option maxHeartbeats 1000000 in
theorem dadd_nil (nm key : ByteArray) (p1 p2 : Option Addr) (n1 n2 c1 c2 : Nat) (W : World) : Calls Tryz.prog 28 #[.pointer none, .agg #[.string nm, .slice p1 n1 c1, .string key, .slice p2 n2 c2]] W fun e w' => e = .returned (.int .i64 6) ∧ Below W.heap.size W w' := by
  have hbl := below_alloc W (.cells #[.string nm, .slice p1 n1 c1, .string key, .slice p2 n2 c2] 46)
  have hV := heap_alloc_new W (.cells #[.string nm, .slice p1 n1 c1, .string key, .slice p2 n2 c2] 46)
  obtain ⟨w1, hw1⟩ : ∃ w1, W.alloc (.cells #[.string nm, .slice p1 n1 c1, .string key, .slice p2 n2 c2] 46) = w1 := ⟨_, rfl⟩
  obtain ⟨V, hVe⟩ : ∃ V, W.heap.size = V := ⟨_, rfl⟩
  rw [hw1] at hbl hV
  rw [hVe] at hV
  have HV := Lib.hid (And.intro hV hbl)
  have HW := Lib.hid (And.intro hw1 hVe)
  clear hV hbl hw1 hVe
  go_enter Tryz.func28, Tryz.ntmps28
  go_upto_region 1 with fail
  rw [HW.out.1, HW.out.2]
  refine Par.wp_region_par 3 [.pointer none, .pointer none, .agg #[.string nm, .slice p1 n1 c1, .string key, .slice p2 n2 c2]] (fun w => Below w1.heap.size w1 w) ?A1 ?hm1 ?hB1 ?hA1 ((below_drew w1)) ?hop1 ?hT1
  case hm1 => kernel_rfl
  case hB1 => kernel_rfl
  case hA1 =>
    simp only [Par.putA, Par.dstAt, Act.put, List.getElem?_toArray, List.getElem?_cons_zero, List.getElem?_cons_succ, Option.bind_some, List.setIfInBounds_toArray, List.set_cons_zero, List.set_cons_succ, List.getD_cons_zero, List.getD_cons_succ]
    rfl
  case hop1 =>
    simp only [List.take_succ_cons, List.take_zero, Par.GiveAll, and_true]
    refine ⟨fun w' hR => ?_, fun w' hR => ?_, fun w' hR => ?_⟩
    · have HR := Lib.hid hR
      clear hR
      simp only [Par.Gives]
      go_simp
      all_goals exact HR.out
    · have HR := Lib.hid hR
      clear hR
      simp only [Par.Gives]
      go_simp
      exact (dschema_nil _).mono (fun e w'' ⟨he, hb⟩ => ⟨he, (hb ▸ HR.out)⟩)
    · have HR := Lib.hid hR
      have x0 := nd_cell (heap_on hR HV.out.1) 0
      have x1 := nd_cell (heap_on hR HV.out.1) 1
      have x2 := nd_cell (heap_on hR HV.out.1) 2
      have x3 := nd_cell (heap_on hR HV.out.1) 3
      clear hR
      simp only [Par.Gives]
      go_simp
      all_goals exact HR.out
  case hT1 =>
    intro w' hR
    simp only [List.drop_succ_cons, List.drop_zero]
    have HR := Lib.hid hR
    have hadd := sadd_nil nm key (.slice p1 n1 c1) (.slice p2 n2 c2) w'
    clear hR
    go_wp2_with (go_at_call 72; (with_reducible refine hadd.mono ?_); rintro e w4 ⟨rfl, hD⟩; have H4 := Lib.hid (below_on (below_on HV.out.2 HR.out) hD); clear hadd hD)
    go_ret
    exact ⟨rfl, H4.out⟩
set_option maxRecDepth 100000 in
set_option maxHeartbeats 1000000 in
theorem dvalue_no {dv pv v mv : Value} {ts : List T} {x : ByteArray} {p : List ByteArray} {id : Int} {W : World} (hd : ∀ w, Below W.heap.size W w → Calls Tryz.prog 30 #[dv] w fun e w' => e = .returned pv ∧ w' = w) (h : SchP mv W pv ts) (hp : Wd W v p) (hno : (pcolL ts x p).2.2 ≠ 0) :
    Calls Tryz.prog 20 #[dv, .string x, .int .i64 id, v] W fun e w' => e = .returned (.tuple #[(Value.agg #[Value.int .i64 (0), Value.int .i64 (0), Value.string (e0)]), .bool false]) ∧ Below W.heap.size W w' := by
  have hb1 := below_alloc W (.cells #[.int .i64 0, .int .i64 0, .string e0] 26)
  have k1 := heap_alloc_new W (.cells #[.int .i64 0, .int .i64 0, .string e0] 26)
  obtain ⟨w1, hw1⟩ : ∃ w1, W.alloc (.cells #[.int .i64 0, .int .i64 0, .string e0] 26) = w1 := ⟨_, rfl⟩
  obtain ⟨B, hB⟩ : ∃ B, W.heap.size = B := ⟨_, rfl⟩
  rw [hw1] at hb1 k1
  have hs := hd w1 hb1
  have hc := pathCol_any (tb := x) (h.later hb1) (hp.later hb1)
  obtain ⟨err, herr⟩ : ∃ e, (pcolL ts x p).2.2 = e := ⟨_, rfl⟩
  obtain ⟨s2, hs2⟩ : ∃ e, (pcolL ts x p).2.1 = e := ⟨_, rfl⟩
  obtain ⟨cc, hcc⟩ : ∃ e, (pcolL ts x p).1 = e := ⟨_, rfl⟩
  rw [herr] at hc hno
  rw [hs2, hcc] at hc
  obtain ⟨nm, kd, mu, tg⟩ := cc
  rw [show colVQ ⟨nm, kd, mu, tg⟩ = .agg #[.string nm, .int .i64 kd, .bool mu, .string tg] from rfl] at hc
  rw [hB] at k1
  have HW := Lib.hid (And.intro hw1 (And.intro hB (And.intro hb1 k1)))
  clear hw1 hB hb1 k1 hd h hp herr hs2
  go_enter Tryz.func20, Tryz.ntmps20
  go_upto_region 1 with fail
  rw [HW.out.1, HW.out.2.1]
  go_wp2_with (first
    | (go_at_call 30; (with_reducible refine hs.mono ?_); rintro e w2 ⟨rfl, hw⟩; subst w2; clear hs)
    | (go_at_call 62; (with_reducible refine hc.mono ?_); rintro e w3 ⟨rfl, hb3⟩; have hb4 := below_alloc w3 (.cells #[.string nm, .int .i64 kd, .bool mu, .string tg] 116); have hres := heap_on hb4 (heap_on hb3 HW.out.2.2.2); have z0 := nd_cell hres 0; have z1 := nd_cell hres 1; have z2 := nd_cell hres 2; have zf := fun i => frozen_of_row (w3.alloc (.cells #[.string nm, .int .i64 kd, .bool mu, .string tg] 116)) B i _ _ hres; have zl := lt_of_heap hres; have H3 := Lib.hid (And.intro (below_on (below_on HW.out.2.2.1 hb3) hb4) hres); clear hc hb3 hb4 hres))
  have hS3 := set3 H3.out.2 (.int .i64 0) (.int .i64 0) (.string e0)
  have hBx := below_set3 H3.out.1 (Nat.le_of_eq HW.out.2.1) (.int .i64 0) (.int .i64 0) (.string e0)
  generalize ((World.setCell _ _ _).setCell _ _).setCell _ _ = wz at hS3 hBx ⊢
  have y0 := nd_cell hS3 0
  have y1 := nd_cell hS3 1
  have y2 := nd_cell hS3 2
  refine bodyPost_ret (v := .tuple #[(Value.agg #[Value.int .i64 (0), Value.int .i64 (0), Value.string (e0)]), .bool false]) (by simp [results, Tryz.results20, go_sem, y0, y1, y2]) rfl ?_
  exact ⟨rfl, hBx⟩
theorem set_two {w : World} {a b : Nat} {x y u v : Value} {t1 t2 : TypeId} (h1 : w.heap[a]? = some (.cells #[x] t1)) (h2 : w.heap[b]? = some (.cells #[y] t2)) (hne : a ≠ b) :
    ((w.setCell ⟨a, 0, none⟩ u).setCell ⟨b, 0, none⟩ v).cell? ⟨a, 0, none⟩ = some u ∧ ((w.setCell ⟨a, 0, none⟩ u).setCell ⟨b, 0, none⟩ v).cell? ⟨b, 0, none⟩ = some v := by
  have k1 := heap_setCell_same w a 0 #[x] t1 u h1
  have k2 : (w.setCell ⟨a, 0, none⟩ u).heap[b]? = some (.cells #[y] t2) := (heap_setCell_other w ⟨a, 0, none⟩ b u (fun e => hne e.symm)).trans h2
  have k3 := heap_setCell_same (w.setCell ⟨a, 0, none⟩ u) b 0 #[y] t2 v k2
  have k4 : ((w.setCell ⟨a, 0, none⟩ u).setCell ⟨b, 0, none⟩ v).heap[a]? = _ := (heap_setCell_other (w.setCell ⟨a, 0, none⟩ u) ⟨b, 0, none⟩ a v hne).trans k1
  exact ⟨nd_cell k4 0, nd_cell k3 0⟩
set_option maxRecDepth 100000 in
set_option maxHeartbeats 2000000 in
/-- No key, or nothing: nobody has it. -/
theorem dbykey_no {dv pv mv : Value} {ts : List T} {x : ByteArray} {u : T3} {W : World} (hd : ∀ w, Below W.heap.size W w → Calls Tryz.prog 30 #[dv] w fun e w' => e = .returned pv ∧ w' = w) (h : SchP mv W pv ts) (hfew : AllFew ts) (hno : (orT (findT ts x)).key = e0 ∨ u.1 = 0) :
    Calls Tryz.prog 18 #[dv, .string x, (Value.agg #[Value.int .i64 (u.1), Value.int .i64 (u.2.1), Value.string (u.2.2)])] W fun e w' => e = .returned (.tuple #[(Value.int .i64 (0)), .bool false]) ∧ Below W.heap.size W w' := by
  have hb0 := below_alloc W (.cells #[.int .i64 u.1, .int .i64 u.2.1, .string u.2.2] 26)
  have k0 := heap_alloc_new W (.cells #[.int .i64 u.1, .int .i64 u.2.1, .string u.2.2] 26)
  have hb1 := below_alloc (W.alloc (.cells #[.int .i64 u.1, .int .i64 u.2.1, .string u.2.2] 26)) (.cells #[.int .i64 0] 3)
  have k1 := heap_alloc_new (W.alloc (.cells #[.int .i64 u.1, .int .i64 u.2.1, .string u.2.2] 26)) (.cells #[.int .i64 0] 3)
  have hb2 := below_alloc ((W.alloc (.cells #[.int .i64 u.1, .int .i64 u.2.1, .string u.2.2] 26)).alloc (.cells #[.int .i64 0] 3)) (.cells #[.bool false] 4)
  have k2 := heap_alloc_new ((W.alloc (.cells #[.int .i64 u.1, .int .i64 u.2.1, .string u.2.2] 26)).alloc (.cells #[.int .i64 0] 3)) (.cells #[.bool false] 4)
  have k0 := heap_on hb2 (heap_on hb1 k0)
  have k1 := heap_on hb2 k1
  have hb2 := below_on (below_on hb0 hb1) hb2
  obtain ⟨w1, hw1⟩ : ∃ w1, ((W.alloc (.cells #[.int .i64 u.1, .int .i64 u.2.1, .string u.2.2] 26)).alloc (.cells #[.int .i64 0] 3)).alloc (.cells #[.bool false] 4) = w1 := ⟨_, rfl⟩
  obtain ⟨B, hB⟩ : ∃ B, W.heap.size = B := ⟨_, rfl⟩
  simp only [World.size_alloc] at k1 k2
  rw [hw1] at hb2 k0 k1 k2
  rw [hB] at k0 k1 k2
  have hs := hd w1 hb2
  have hfi := sFind_any (x := x) (h.later hb2) hfew
  generalize orT (findT ts x) = t at hfi hno
  generalize hasT ts x = ok at hfi
  have HW := Lib.hid (And.intro hw1 (And.intro hB (And.intro hb2 (And.intro k0 (And.intro k1 k2)))))
  clear hw1 hB hb0 hb1 hb2 k0 k1 k2 hd h hfew
  have hc : ∃ b : Bool, b = decide (t.key = e0) := ⟨_, rfl⟩
  go_enter Tryz.func18, Tryz.ntmps18
  go_upto_region 1 with fail
  rw [HW.out.1, HW.out.2.1]
  go_upto_region 2 with (first
    | (go_at_call 30; (with_reducible refine hs.mono ?_); rintro e w2 ⟨rfl, hw⟩; subst w2; clear hs)
    | (go_at_call 55; (with_reducible refine hfi.mono ?_); rintro e w3 ⟨p1, n1, c1, p2, n2, c2, rfl, _, hb3⟩; have hb4 := below_alloc w3 (.cells #[.string t.nm, .slice p1 n1 c1, .string t.key, .slice p2 n2 c2] 46); have ka := heap_alloc_new w3 (.cells #[.string t.nm, .slice p1 n1 c1, .string t.key, .slice p2 n2 c2] 46); have H3 := Lib.hid (And.intro (below_on HW.out.2.2.1 (below_on hb3 hb4)) (And.intro (heap_on hb4 (heap_on hb3 HW.out.2.2.2.1)) (And.intro (heap_on hb4 (heap_on hb3 HW.out.2.2.2.2.1)) (And.intro (heap_on hb4 (heap_on hb3 HW.out.2.2.2.2.2)) ka)))); clear hfi hb3 hb4 ka))
  generalize w3.alloc _ = w4 at H3 ⊢
  obtain ⟨m0, m1, m2, m3, m4⟩ := H3.out
  have z2 := nd_cell m4 2
  have v0 := nd_cell m1 0
  have r0 := nd_cell m2 0
  have r1 := nd_cell m3 0
  have f0 := fun i => frozen_of_row w4 (B + 1) i _ _ m2
  have f1 := fun i => frozen_of_row w4 (B + 1 + 1) i _ _ m3
  have l0 := lt_of_heap m2
  have l1 := lt_of_heap m3
  have l2 := lt_of_heap m4
  have l3 := lt_of_heap m1
  have hst := set_two (u := .int .i64 0) (v := .bool false) m2 m3 (by omega)
  have hBx : Below B W ((w4.setCell ⟨B + 1, 0, none⟩ (.int .i64 0)).setCell ⟨B + 1 + 1, 0, none⟩ (.bool false)) := ((HW.out.2.1 ▸ m0).setCell (p := ⟨B + 1, 0, none⟩) (by show B ≤ B + 1; omega) _).setCell (p := ⟨B + 1 + 1, 0, none⟩) (by show B ≤ B + 1 + 1; omega) _
  have HE := Lib.hid (And.intro hst hBx)
  clear m0 m1 m2 m3 m4 hst hBx
  by_cases hk : t.key = e0
  · go_upto_region 3 with fail
    all_goals (go_wp2_with fail)
    all_goals
      obtain ⟨⟨y0, y1⟩, hBx⟩ := HE.out
      refine bodyPost_ret (v := .tuple #[.int .i64 0, .bool false]) (by simp [results, Tryz.results18, go_sem, y0, y1]) rfl ?_
      exact ⟨rfl, HW.out.2.1 ▸ hBx⟩
  · obtain hu : u.1 = 0 := hno.resolve_left hk
    go_upto_region 3 with fail
    all_goals (go_wp2_with fail)
    all_goals
      obtain ⟨⟨y0, y1⟩, hBx⟩ := HE.out
      refine bodyPost_ret (v := .tuple #[.int .i64 0, .bool false]) (by simp [results, Tryz.results18, go_sem, y0, y1]) rfl ?_
      exact ⟨rfl, HW.out.2.1 ▸ hBx⟩
end Go.Proofs.YtjepplacnaoomaaGreat
