/- count, uncount, At. At where there is none; Append. Append. Set. -/
import Derived.Test.YtffpmmphpdkkbaaGreatMCO2
import Derived.Deep.AppendLies
import Derived.Deep.RegionLaw
namespace Go.Proofs.YtffpmmphpdkkbaaGreat.Co.S
open Go Go.RowKit Go.Shelf Go.Proofs Go.Proofs.YtffpmmphpdkkbaaGreat Go.Proofs.YtffpmmphpdkkbaaGreat.Co
section
variable {cb : Nat} {kind n : Int} {v : Value} {L : List (K 12 × Int)} {W0 W W' : World}
theorem grown_set (W : World) (a : Addr) (u : Value) : W.grownBy (W.setCell a u) (some a.block) := ⟨rfl, rfl, rfl, by simp [World.setCell], fun _ _ hk => Below.heap_setCell _ _ _ _ (fun e => hk (by rw [e]))⟩
set_option maxRecDepth 100000 in
theorem count_null (h : Cm cb kind v n L W0 W) (n1 : Int) (s : ByteArray) (hn : 0 ≤ n ∧ n ≤ 1000000) : Calls Tryz.prog 69 #[(Value.pointer (some ⟨cb, 0, none⟩)), (Value.agg #[Value.int .i64 (0), Value.int .i64 (n1), Value.string (s)])] W fun e w' => e = .returned (.tuple #[]) ∧ Cm cb kind v (n + 1) L W0 w' ∧ Chg (fun b => b = cb) W w' := by
  have hlt := h.lt
  have c4 := h.c4
  have fz := h.dm.fz 4
  have hw : IntKind.i64.wrap (n + 1) = n + 1 := by rw [IntKind.wrap_i64]; omega
  go_enter Tryz.func69, Tryz.ntmps69
  go_wp2
  go_end0
  exact ⟨rfl, (h.set4 _).later (below_alloc _ _), ((Chg.refl (fun b => b = cb) W).setCell (fun _ => rfl) _).alloc _⟩
set_option maxRecDepth 100000 in
theorem uncount_null (h : Cm cb kind v n L W0 W) (n1 : Int) (s : ByteArray) (hn : 1 ≤ n ∧ n ≤ 1000000) : Calls Tryz.prog 68 #[(Value.pointer (some ⟨cb, 0, none⟩)), (Value.agg #[Value.int .i64 (0), Value.int .i64 (n1), Value.string (s)])] W fun e w' => e = .returned (.tuple #[]) ∧ Cm cb kind v (n - 1) L W0 w' ∧ Chg (fun b => b = cb) W w' := by
  have hlt := h.lt
  have c4 := h.c4
  have fz := h.dm.fz 4
  have hw : IntKind.i64.wrap (n - 1) = n - 1 := by rw [IntKind.wrap_i64]; omega
  go_enter Tryz.func68, Tryz.ntmps68
  go_wp2
  go_end0
  exact ⟨rfl, (h.set4 _).later (below_alloc _ _), ((Chg.refl (fun b => b = cb) W).setCell (fun _ => rfl) _).alloc _⟩
set_option maxRecDepth 100000 in
theorem count_other (h : Cm cb kind v n L W0 W) (n1 : Int) (s : ByteArray) (k : Int) (hk0 : k ≠ 0) (hk2 : k ≠ 2) : Calls Tryz.prog 69 #[(Value.pointer (some ⟨cb, 0, none⟩)), (Value.agg #[Value.int .i64 (k), Value.int .i64 (n1), Value.string (s)])] W fun e w' => e = .returned (.tuple #[]) ∧ Below W.heap.size W w' := by
  have hlt := h.lt
  have c4 := h.c4
  have fz := h.dm.fz 4
  have e0 : (k == 0) = false := by simp [hk0]
  have e2 : (k == 2) = false := by simp [hk2]
  go_enter Tryz.func69, Tryz.ntmps69
  go_wp2
  go_end0
  exact ⟨rfl, below_alloc W _⟩
set_option maxRecDepth 100000 in
theorem uncount_other (h : Cm cb kind v n L W0 W) (n1 : Int) (s : ByteArray) (k : Int) (hk0 : k ≠ 0) (hk2 : k ≠ 2) : Calls Tryz.prog 68 #[(Value.pointer (some ⟨cb, 0, none⟩)), (Value.agg #[Value.int .i64 (k), Value.int .i64 (n1), Value.string (s)])] W fun e w' => e = .returned (.tuple #[]) ∧ Below W.heap.size W w' := by
  have hlt := h.lt
  have c4 := h.c4
  have fz := h.dm.fz 4
  have e0 : (k == 0) = false := by simp [hk0]
  have e2 : (k == 2) = false := by simp [hk2]
  go_enter Tryz.func68, Tryz.ntmps68
  go_wp2
  go_end0
  exact ⟨rfl, below_alloc W _⟩
set_option maxRecDepth 100000 in
set_option maxHeartbeats 1000000 in
theorem count_text (h : Cm cb kind v n L W0 W) (n1 : Int) (s : ByteArray) (hs : s.size ≤ 12) (hl : L.length + 1 ≤ 999999) (ht : tm (wd s) L + 1 ≤ 1000000) : Calls Tryz.prog 69 #[(Value.pointer (some ⟨cb, 0, none⟩)), (Value.agg #[Value.int .i64 (2), Value.int .i64 (n1), Value.string (s)])] W fun e w' => e = .returned (.tuple #[]) ∧ Cm cb kind v n (insL keyOf (wd s) (tm (wd s) L + 1) L) W0 w' ∧ Chg (fun b => b = cb) W w' := by
  have hlt := h.lt
  have hnew := heap_alloc_new W (.cells #[.int .i64 2, .int .i64 n1, .string s] 53)
  have hbel := below_alloc W (.cells #[.int .i64 2, .int .i64 n1, .string s] 53)
  obtain ⟨B, hB⟩ : ∃ B, W.heap.size = B := ⟨_, rfl⟩
  have hws := wd_val hs
  rw [hB] at hnew hbel hlt
  have HK := Lib.hid (show (fun w : World => w.cell? ⟨B, 2, none⟩ = some (.string s) ∧ Below B W w ∧ B < w.heap.size) (W.alloc (.cells #[.int .i64 2, .int .i64 n1, .string s] 53)).drew from
    ⟨nd_cell hnew 2, hbel.drew, by show B < (W.alloc _).heap.size; simp; omega⟩)
  have h : ∀ {y : World}, Below B W y → Cm cb kind v n L W0 y := fun hb => h.later (hB ▸ hb)
  have hcal := fun (y : World) (hy : Below B W y) => add_any (wd s) (h hy).dm hl ht
  simp only [hws] at hcal
  clear hnew hbel
  go_enter Tryz.func69, Tryz.ntmps69
  go_wp2_with fail
  refine Par.wp_region_par 5 [.pointer (some ⟨cb, 0, none⟩), .pointer (some ⟨cb, 0, none⟩), .pointer (some ⟨cb, 2, none⟩), .pointer (some ⟨B, 2, none⟩), .string s] (fun w => w.cell? ⟨B, 2, none⟩ = some (.string s) ∧ Below B W w ∧ B < w.heap.size) ?A1 ?hm1 ?hB1 ?hA1 HK.out ?hop1 ?hT1
  case hm1 => kernel_rfl
  case hB1 => kernel_rfl
  case hA1 =>
    simp only [Par.putA, Par.dstAt, Act.put, List.getElem?_toArray, List.getElem?_cons_zero, List.getElem?_cons_succ, Option.bind_some, List.setIfInBounds_toArray, List.set_cons_zero, List.set_cons_succ, List.getD_cons_zero, List.getD_cons_succ]
    rfl
  case hop1 =>
    simp only [List.take_succ_cons, List.take_zero, Par.GiveAll, and_true]
    refine ⟨fun w' hR => ?_, fun w' hR => ?_, fun w' hR => ?_, fun w' hR => ?_, fun w' hR => ?_⟩
    · have HR := Lib.hid hR
      clear hR
      simp only [Par.Gives]
      go_simp
      all_goals exact HR.out
    · have HR := Lib.hid hR
      clear hR
      simp only [Par.Gives]
      go_simp
      all_goals exact HR.out
    · have HR := Lib.hid hR
      clear hR
      simp only [Par.Gives]
      go_simp
      all_goals exact HR.out
    · have HR := Lib.hid hR
      clear hR
      simp only [Par.Gives]
      go_simp
      all_goals exact HR.out
    · have HR := Lib.hid hR
      obtain ⟨b2, hW, hB⟩ := hR
      simp only [Par.Gives]
      go_simp
      all_goals exact HR.out
  case hT1 =>
    intro w' hR
    simp only [List.drop_succ_cons, List.drop_zero]
    have hbW := hR.2.1
    have hh := hcal w' hbW
    go_wp2_with (go_at_call 86; (with_reducible refine hh.mono ?_); rintro e w3 ⟨rfl, d3, c3⟩)
    go_end0
    exact ⟨rfl, (h hbW).map d3 c3, (Chg.of_below (S := fun b => b = cb) (hB.symm ▸ hbW)).trans c3.chg (fun _ _ x => x) (fun _ _ x => x)⟩
set_option maxRecDepth 100000 in
set_option maxHeartbeats 1000000 in
theorem uncount_text (h : Cm cb kind v n L W0 W) (n1 : Int) (s : ByteArray) (hs : s.size ≤ 12) (hl : L.length + 1 ≤ 999999) : Calls Tryz.prog 68 #[(Value.pointer (some ⟨cb, 0, none⟩)), (Value.agg #[Value.int .i64 (2), Value.int .i64 (n1), Value.string (s)])] W fun e w' => e = .returned (.tuple #[]) ∧ Cm cb kind v n (takeL (wd s) L) W0 w' ∧ Chg (fun b => b = cb) W w' := by
  have hlt := h.lt
  have hnew := heap_alloc_new W (.cells #[.int .i64 2, .int .i64 n1, .string s] 53)
  have hbel := below_alloc W (.cells #[.int .i64 2, .int .i64 n1, .string s] 53)
  obtain ⟨B, hB⟩ : ∃ B, W.heap.size = B := ⟨_, rfl⟩
  have hws := wd_val hs
  rw [hB] at hnew hbel hlt
  have HK := Lib.hid (show (fun w : World => w.cell? ⟨B, 2, none⟩ = some (.string s) ∧ Below B W w ∧ B < w.heap.size) (W.alloc (.cells #[.int .i64 2, .int .i64 n1, .string s] 53)).drew from
    ⟨nd_cell hnew 2, hbel.drew, by show B < (W.alloc _).heap.size; simp; omega⟩)
  have h : ∀ {y : World}, Below B W y → Cm cb kind v n L W0 y := fun hb => h.later (hB ▸ hb)
  have hcal := fun (y : World) (hy : Below B W y) => take_any (wd s) (h hy).dm hl
  simp only [hws] at hcal
  clear hnew hbel
  go_enter Tryz.func68, Tryz.ntmps68
  go_wp2_with fail
  refine Par.wp_region_par 5 [.pointer (some ⟨cb, 0, none⟩), .pointer (some ⟨cb, 0, none⟩), .pointer (some ⟨cb, 2, none⟩), .pointer (some ⟨B, 2, none⟩), .string s] (fun w => w.cell? ⟨B, 2, none⟩ = some (.string s) ∧ Below B W w ∧ B < w.heap.size) ?A2 ?hm2 ?hB2 ?hA2 HK.out ?hop2 ?hT2
  case hm2 => kernel_rfl
  case hB2 => kernel_rfl
  case hA2 =>
    simp only [Par.putA, Par.dstAt, Act.put, List.getElem?_toArray, List.getElem?_cons_zero, List.getElem?_cons_succ, Option.bind_some, List.setIfInBounds_toArray, List.set_cons_zero, List.set_cons_succ, List.getD_cons_zero, List.getD_cons_succ]
    rfl
  case hop2 =>
    simp only [List.take_succ_cons, List.take_zero, Par.GiveAll, and_true]
    refine ⟨fun w' hR => ?_, fun w' hR => ?_, fun w' hR => ?_, fun w' hR => ?_, fun w' hR => ?_⟩
    · have HR := Lib.hid hR
      clear hR
      simp only [Par.Gives]
      go_simp
      all_goals exact HR.out
    · have HR := Lib.hid hR
      clear hR
      simp only [Par.Gives]
      go_simp
      all_goals exact HR.out
    · have HR := Lib.hid hR
      clear hR
      simp only [Par.Gives]
      go_simp
      all_goals exact HR.out
    · have HR := Lib.hid hR
      clear hR
      simp only [Par.Gives]
      go_simp
      all_goals exact HR.out
    · have HR := Lib.hid hR
      obtain ⟨b2, hW, hB⟩ := hR
      simp only [Par.Gives]
      go_simp
      all_goals exact HR.out
  case hT2 =>
    intro w' hR
    simp only [List.drop_succ_cons, List.drop_zero]
    have hbW := hR.2.1
    have hh := hcal w' hbW
    go_wp2_with (go_at_call 85; (with_reducible refine hh.mono ?_); rintro e w3 ⟨rfl, d3, c3⟩)
    go_end0
    exact ⟨rfl, (h hbW).map d3 c3, (Chg.of_below (S := fun b => b = cb) (hB.symm ▸ hbW)).trans c3.chg (fun _ _ x => x) (fun _ _ x => x)⟩
set_option maxRecDepth 100000 in
set_option maxHeartbeats 1000000 in
theorem at_in {l : List T3} {base : Nat} (h : Cm cb kind v n L W0 W) (hr : HRow W base 53 3 v l.length (cells3 l)) (i : Nat) (hi : i < l.length) : Calls Tryz.prog 53 #[(Value.pointer (some ⟨cb, 0, none⟩)), (Value.int .i64 ((i : Int)))] W fun e w' => e = .returned (.tuple #[(Value.agg #[Value.int .i64 ((l[i]).1), Value.int .i64 ((l[i]).2.1), Value.string ((l[i]).2.2)]), .bool true]) ∧ Below W.heap.size W w' := by
  have hlt := h.lt
  have c1 := h.c1
  have hlen := fun y (hy : Below W.heap.size W y) => clen_any (h.later hy) (hr.later hy)
  obtain ⟨g, cap, rfl, hnc, _⟩ := hr.slice (by omega)
  obtain ⟨h0, h1, h2⟩ := cells3_at l i hi
  have a0 := hr.cell h0
  have a1 := hr.cell h1
  have a2 := hr.cell h2
  have hg := (hr.lt g rfl).2
  have b0 := hlen _ (below_alloc W (.cells #[.int .i64 0, .int .i64 0, .string ⟨#[]⟩] 53))
  generalize l[i] = x at a0 a1 a2 ⊢
  obtain ⟨k, n1, s⟩ := x
  obtain ⟨m, hm⟩ : ∃ m, l.length = m := ⟨_, rfl⟩
  rw [hm] at hi b0 hnc c1
  have d0 : decide ((i : Int) < 0) = false := decide_eq_false (by omega)
  have d1 : decide ((m : Int) ≤ (i : Int)) = false := decide_eq_false (by omega)
  have d2 : (i : Int) < (m : Int) := by omega
  clear h0 h1 h2 hlen hr h hm
  go_enter Tryz.func53, Tryz.ntmps53
  go_wp2_with (go_at_call 78; (with_reducible refine b0.mono ?_); rintro e w' ⟨rfl, hw⟩; subst w')
  refine bodyPost_ret (v := .tuple #[(Value.agg #[Value.int .i64 (k), Value.int .i64 (n1), Value.string (s)]), .bool true]) (by simp [results, Tryz.results53, go_sem]) rfl ?_
  exact ⟨rfl, by first | exact below_alloc W _ | exact (below_alloc W _).setCell (Nat.le_refl _) _⟩
end
end Go.Proofs.YtffpmmphpdkkbaaGreat.Co.S
namespace Go.Proofs.YtffpmmphpdkkbaaGreat.Co.S
open Go Go.RowKit Go.Shelf Go.Proofs Go.Proofs.YtffpmmphpdkkbaaGreat Go.Proofs.YtffpmmphpdkkbaaGreat.Co
section
variable {cb : Nat} {kind n : Int} {v : Value} {L : List (K 12 × Int)} {W0 W W' : World}

set_option maxRecDepth 100000 in
theorem at_out {m : Nat} {xs : List Value} {base : Nat} (h : Cm cb kind v n L W0 W) (hr : HRow W base 53 3 v m xs) (i : Int) (hi : i < 0 ∨ (m : Int) ≤ i) : Calls Tryz.prog 53 #[(Value.pointer (some ⟨cb, 0, none⟩)), (Value.int .i64 (i))] W fun e w' => e = .returned (.tuple #[(Value.agg #[Value.int .i64 (0), Value.int .i64 (0), Value.string (⟨#[]⟩)]), .bool false]) ∧ Below W.heap.size W w' := by
  have hlen := fun y (hy : Below W.heap.size W y) => clen_any (h.later hy) (hr.later hy)
  have b0 := hlen _ (below_alloc W (.cells #[.int .i64 0, .int .i64 0, .string ⟨#[]⟩] 53))
  clear hlen hr h
  by_cases h0 : i < 0
  · go_enter Tryz.func53, Tryz.ntmps53
    go_wp2
    refine bodyPost_ret (v := .tuple #[(Value.agg #[Value.int .i64 (0), Value.int .i64 (0), Value.string (⟨#[]⟩)]), .bool false]) (by simp [results, Tryz.results53, go_sem]) rfl ?_
    exact ⟨rfl, below_alloc W _⟩
  · have d0 : decide (i < 0) = false := decide_eq_false h0
    have d1 : (m : Int) ≤ i := by omega
    have d1 : decide ((m : Int) ≤ i) = true := decide_eq_true (by omega)
    go_enter Tryz.func53, Tryz.ntmps53
    go_wp2_with (go_at_call 78; (with_reducible refine b0.mono ?_); rintro e w' ⟨rfl, hw⟩; subst w')
    refine bodyPost_ret (v := .tuple #[(Value.agg #[Value.int .i64 (0), Value.int .i64 (0), Value.string (⟨#[]⟩)]), .bool false]) (by simp [results, Tryz.results53, go_sem]) rfl ?_
    exact ⟨rfl, below_alloc W _⟩

theorem info28 : (Tryz.prog.info? 53).map (fun i => (i.zero, i.size, i.bytes)) = some (some (.agg #[.int .i64 0, .int .i64 0, .string ⟨#[]⟩]), 3, 32) := by kernel_rfl

/-- append of one value. -/
theorem app_one (y : World) (base : Nat) {v : Value} {m : Nat} {xs : List Value} (hr : HRow y base 53 3 v m xs) (hm : m + 1 ≤ 1000000) (hb : base ≤ y.heap.size) (k n1 : Int) (s : ByteArray) :
    ∃ g cap w', (Builtin.append_ #[40, 40] 40 #[v, .slice (some ⟨y.heap.size, 0, none⟩) 1 1]).run Tryz.prog (y.alloc (.cells #[.int .i64 k, .int .i64 n1, .string s] 53)) = .ok (.slice (some ⟨g, 0, none⟩) (m + 1) cap) w' ∧
      HRow w' base 53 3 (.slice (some ⟨g, 0, none⟩) (m + 1) cap) (m + 1) (xs ++ [.int .i64 k, .int .i64 n1, .string s]) ∧ (y.alloc (.cells #[.int .i64 k, .int .i64 n1, .string s] 53)).grownBy w' v.ownBlock ∧ (v.ownBlock = some g ∨ y.heap.size ≤ g) := by
  obtain ⟨i0, hi0, hz0, hz1, hz2⟩ := info_parts info28
  have hh := heap_alloc_new y (.cells #[.int .i64 k, .int .i64 n1, .string s] 53)
  obtain ⟨g, cap, w', h1, h2, h3, h4⟩ := run_append_has (P := Tryz.prog) (y.alloc (.cells #[.int .i64 k, .int .i64 n1, .string s] 53)) base 40 40 53 i0 _ 3 32 Tryz.underlying40 hi0 hz0 hz1 hz2 rfl (by decide) (hr.later (below_alloc y _)) ⟨y.heap.size, 0, none⟩ 1 1 [.int .i64 k, .int .i64 n1, .string s] rfl
    (by exact World.news_of_block hh) (by simp [Value.oneCell']) (by decide) (by unfold maxLen; omega) (by omega) (by rw [World.size_alloc]; omega)
  exact ⟨g, cap, w', h1, h2, h3, h4.imp id (fun h => by rw [World.size_alloc] at h; omega)⟩
end
end Go.Proofs.YtffpmmphpdkkbaaGreat.Co.S
namespace Go.Proofs.YtffpmmphpdkkbaaGreat.Co.S
open Go Go.RowKit Go.Shelf Go.Proofs Go.Proofs.YtffpmmphpdkkbaaGreat Go.Proofs.YtffpmmphpdkkbaaGreat.Co
section
variable {cb : Nat} {kind n : Int} {v : Value} {L : List (K 12 × Int)} {W0 W W' : World}

set_option maxRecDepth 100000 in
theorem append_no (h : Cm cb kind v n L W0 W) (k n1 : Int) (s : ByteArray) (hs : s.size ≤ maxLen) (hi : inC kind (k, n1, s) = false) : Calls Tryz.prog 66 #[(Value.pointer (some ⟨cb, 0, none⟩)), (Value.agg #[Value.int .i64 (k), Value.int .i64 (n1), Value.string (s)])] W fun e w' => e = .returned (.bool false) ∧ Below W.heap.size W w' := by
  have ht := takes_any (h.later (below_alloc W (.cells #[.int .i64 k, .int .i64 n1, .string s] 53))) k n1 s hs
  rw [hi] at ht
  go_enter Tryz.func66, Tryz.ntmps66
  go_wp2_with (go_at_call 67; (with_reducible refine ht.mono ?_); rintro e x1 ⟨rfl, b1⟩)
  go_ret
  exact ⟨rfl, below_on (below_alloc W _) b1⟩

/-- What stands in the column behind one more. -/
def nUp (n : Int) (x : T3) : Int := if x.1 = 0 then n + 1 else n
def lUp (L : List (K 12 × Int)) (x : T3) : List (K 12 × Int) := if x.1 = 2 then insL keyOf (wd x.2.2) (tm (wd x.2.2) L + 1) L else L
theorem inC_size {x : T3} (h : inC kind x = true) (h2 : x.1 = 2) : x.2.2.size ≤ 12 := by
  unfold inC at h
  rw [Bool.and_eq_true] at h
  have h := h.1
  unfold mayV at h
  rw [h2] at h
  simp [mayT] at h
  exact h.2.1
/-- count, of any value. -/
theorem ccount_any (h : Cm cb kind v n L W0 W) (x : T3) (hs : x.1 = 2 → x.2.2.size ≤ 12) (hn : 0 ≤ n ∧ n ≤ 1000000) (hl : L.length + 1 ≤ 999999) (ht : ∀ s, tm s L + 1 ≤ 1000000) :
    Calls Tryz.prog 69 #[(Value.pointer (some ⟨cb, 0, none⟩)), (Value.agg #[Value.int .i64 (x.1), Value.int .i64 (x.2.1), Value.string (x.2.2)])] W fun e w' => e = .returned (.tuple #[]) ∧ Cm cb kind v (nUp n x) (lUp L x) W0 w' ∧ Chg (fun b => b = cb) W w' := by
  obtain ⟨k, n1, s⟩ := x
  unfold nUp lUp
  by_cases h0 : k = 0
  · subst h0
    exact count_null h n1 s hn
  · by_cases h2 : k = 2
    · subst h2
      exact count_text h n1 s (hs rfl) hl (ht _)
    · simp only [h0, h2, if_false]
      exact (count_other h n1 s k h0 h2).mono (fun e w' ⟨he, hb⟩ => ⟨he, h.later hb, Chg.of_below hb⟩)

set_option maxRecDepth 100000 in
set_option maxHeartbeats 2000000 in
theorem append_yes {l : List T3} (h : Cm cb kind v n L W0 W) (hr : HRow W (cb + 1) 53 3 v l.length (cells3 l)) (hll : l.length + 1 ≤ 1000) (x : T3) (hs : x.2.2.size ≤ maxLen) (hi : inC kind x = true) (hn : 0 ≤ n ∧ n ≤ 1000000) (hl : L.length + 1 ≤ 999999) (ht : ∀ s, tm s L + 1 ≤ 1000000) :
    Calls Tryz.prog 66 #[(Value.pointer (some ⟨cb, 0, none⟩)), (Value.agg #[Value.int .i64 (x.1), Value.int .i64 (x.2.1), Value.string (x.2.2)])] W fun e w' => e = .returned (.bool true) ∧ ∃ v', Cm cb kind v' (nUp n x) (lUp L x) W0 w' ∧ HRow w' (cb + 1) 53 3 v' (l ++ [x]).length (cells3 (l ++ [x])) ∧ (∀ q, v'.ownBlock = some q → v.ownBlock = some q ∨ W.heap.size ≤ q) ∧ Chg (fun b => b = cb ∨ v.ownBlock = some b) W w' := by
  have hc := fun (y : World) (u : Value) (hy : Cm cb kind u n L W0 y) => ccount_any hy x (inC_size hi) hn hl ht
  have hlen : (l ++ [x]).length = l.length + 1 := by simp
  have hcell : cells3 (l ++ [x]) = cells3 l ++ [.int .i64 x.1, .int .i64 x.2.1, .string x.2.2] := by rw [cells3_append]; simp [cells3]
  rw [hlen, hcell]
  generalize nUp n x = n' at hc ⊢
  generalize lUp L x = L' at hc ⊢
  obtain ⟨k, n1, s⟩ := x
  have ht := takes_any (h.later (below_alloc W (.cells #[.int .i64 k, .int .i64 n1, .string s] 53))) k n1 s hs
  rw [hi] at ht
  have hnew := heap_alloc_new W (.cells #[.int .i64 k, .int .i64 n1, .string s] 53)
  have hap := fun y (hy : HRow y (cb + 1) 53 3 v l.length (cells3 l)) (hlt : cb + 1 ≤ y.heap.size) => app_one y (cb + 1) hy (by omega) hlt k n1 s
  have hba := below_alloc W (.cells #[.int .i64 k, .int .i64 n1, .string s] 53)
  obtain ⟨B, hB⟩ : ∃ B, W.heap.size = B := ⟨_, rfl⟩
  have hlt := h.lt
  rw [hB] at hnew hba hlt
  have HF := Lib.hid (And.intro hnew (And.intro hba (And.intro h hr)))
  have HC := Lib.hid (And.intro hlen hcell)
  obtain ⟨m, hm⟩ : ∃ m, l.length = m := ⟨_, rfl⟩
  obtain ⟨xs, hxs⟩ : ∃ xs, cells3 l = xs := ⟨_, rfl⟩
  rw [hm, hxs] at hap hr
  simp only [hm, hxs]
  clear hnew hba hi hlen hcell
  go_enter Tryz.func66, Tryz.ntmps66
  go_wp2_with (go_at_call 67; (with_reducible refine ht.mono ?_); rintro e x1 ⟨rfl, b1⟩)
  have hB1 : Below B W x1 := HF.out.2.1.trans (b1.mono (by rw [← hB]; simp))
  have hW1 : Below W.heap.size W x1 := hB.symm ▸ hB1
  have h1 := h.later hW1
  have c1 := h1.c1
  have f1 := h1.dm.fz 1
  have hr1 := hr.later hW1
  have bx : x1.heap[B]? = some (.cells #[.int .i64 k, .int .i64 n1, .string s] 53) := (b1.block B (by simp; omega)).trans HF.out.1
  have b0 := nd_cell bx 0
  have b1' := nd_cell bx 1
  have b2 := nd_cell bx 2
  have hz1 : cb + 1 ≤ x1.heap.size := by have := hB1.size; omega
  obtain ⟨g, cap', w3, hrun, r3, g3, own⟩ := hap x1.drew (hr1.later (Below.refl _ x1).drew) hz1
  have hrun : (Builtin.append_ #[40, 40] 40 #[v, .slice (some ⟨x1.heap.size, 0, none⟩) 1 1]).run Tryz.prog (x1.alloc (.cells #[.int .i64 k, .int .i64 n1, .string s] 53)).drew = .ok (.slice (some ⟨g, 0, none⟩) (m + 1) cap') w3 := hrun
  have hb3 : x1.grownBy w3 v.ownBlock := ⟨g3.os, g3.tape, g3.output, Nat.le_trans (by simp) g3.size, fun q hq hne => (g3.block q (by show q < (x1.alloc _).heap.size; simp; omega) hne).trans ((below_alloc x1 _).block q hq)⟩
  have hnb : ∀ q, v.ownBlock = some q → q ≠ cb ∧ Ty x1 q := fun q hq => by
    obtain ⟨q1, cur, q2⟩ := hr1.block q hq
    exact ⟨by omega, cur, 53, q2, by decide⟩
  have h3 := h1.other hb3 hnb
  have c3 := h3.c1
  have f3 := h3.dm.fz 1
  have hBn : ∀ q, v.ownBlock = some q → q ≠ B := fun q hq => by have := (HF.out.2.2.2.lt q hq).2; omega
  have bx3 : w3.heap[B]? = some (.cells #[.int .i64 k, .int .i64 n1, .string s] 53) := (hb3.block B (World.block_lt_of_cell? x1 ⟨B, 0, none⟩ b0) (fun e => hBn B e.symm rfl)).trans bx
  have HH := Lib.hid (And.intro h3 (And.intro r3 (And.intro hb3 (And.intro own (And.intro bx3 hW1)))))
  have hB3 : B < w3.heap.size := lt_of_heap bx3
  have hgc : g ≠ cb := by
    rcases own with e | e
    · exact (hnb g e).1
    · intro e2
      have : cb < x1.heap.size := h1.lt
      have : x1.heap.size ≤ g := e
      omega
  have hlt1 : cb < x1.heap.size := h1.lt
  have hBx1 : B < x1.heap.size := World.block_lt_of_cell? x1 ⟨B, 0, none⟩ b0
  clear h3 r3 hb3 g3 own bx3 hnb hBn h1 hr1 hap
  go_region_law (refine step_append_run rfl (.tmp 13) (.tmp 15) 40 rfl rfl rfl hrun ?_)
  all_goals
    obtain ⟨w4, hw4⟩ : ∃ w4, w4 = w3.setCell ⟨cb, 1, none⟩ (.slice (some ⟨g, 0, none⟩) (m + 1) cap') := ⟨_, rfl⟩
    rw [← hw4]
    obtain ⟨h3, r3, hb3, own, bx3, hW1⟩ := HH.out
    have h4 := h3.set1 (.slice (some ⟨g, 0, none⟩) (m + 1) cap')
    have bb4 : ∀ q, q ≠ cb → w4.heap[q]? = w3.heap[q]? := fun q hq => by rw [hw4]; exact Below.heap_setCell _ _ _ _ (fun e => hq e)
    rw [← hw4] at h4
    have r4 := r3.of (w' := w4) (fun q hq => bb4 q (by cases hq; exact hgc))
    have bx4 := (bb4 B (by omega)).trans bx3
    have d0 := nd_cell bx4 0
    have d1 := nd_cell bx4 1
    have d2 := nd_cell bx4 2
    have hcc := hc w4 _ h4
    have g4 : Chg (fun b => b = cb ∨ v.ownBlock = some b) W w4 := by
      rw [hw4]
      exact ((Chg.of_below hW1).grown hb3 (fun q hq _ => .inr hq)).setCell (fun _ => .inl rfl) _
    have HG := Lib.hid (And.intro r4 (And.intro g4 own))
    have hsz : W.heap.size ≤ x1.heap.size := hW1.size
    have HS := Lib.hid hsz
    clear h3 r3 hb3 own bx3 hW1 h4 bb4 r4 g4 hsz bx4 hw4
    go_wp2_with (go_at_call 69; (with_reducible refine hcc.mono ?_); rintro e w5 ⟨rfl, d5, c5⟩)
    go_ret
    refine ⟨rfl, _, d5, HG.out.1.chg (by omega) c5, fun q hq => ?_, HG.out.2.1.trans c5 (fun _ _ x => x) (fun _ _ x => .inl x)⟩
    cases hq
    exact HG.out.2.2.imp id (fun h => Nat.le_trans HS.out h)
end
end Go.Proofs.YtffpmmphpdkkbaaGreat.Co.S
namespace Go.Proofs.YtffpmmphpdkkbaaGreat.Co.S
open Go Go.RowKit Go.Shelf Go.Proofs Go.Proofs.YtffpmmphpdkkbaaGreat Go.Proofs.YtffpmmphpdkkbaaGreat.Co
section
variable {cb : Nat} {kind n : Int} {v : Value} {L : List (K 12 × Int)} {W0 W W' : World}

set_option maxRecDepth 100000 in
theorem set_out {m : Nat} {xs : List Value} {base : Nat} (h : Cm cb kind v n L W0 W) (hr : HRow W base 53 3 v m xs) (i : Int) (hi : i < 0 ∨ (m : Int) ≤ i) (k n1 : Int) (s : ByteArray) : Calls Tryz.prog 43 #[(Value.pointer (some ⟨cb, 0, none⟩)), (Value.int .i64 (i)), (Value.agg #[Value.int .i64 (k), Value.int .i64 (n1), Value.string (s)])] W fun e w' => e = .returned (.bool false) ∧ Below W.heap.size W w' := by
  have ha := at_out (h.later (below_alloc W (.cells #[.int .i64 k, .int .i64 n1, .string s] 53))) (hr.later (below_alloc W (.cells #[.int .i64 k, .int .i64 n1, .string s] 53))) i hi
  clear hi h hr
  go_enter Tryz.func43, Tryz.ntmps43
  go_wp2_with (go_at_call 53; (with_reducible refine ha.mono ?_); rintro e x1 ⟨rfl, b1⟩)
  go_ret
  exact ⟨rfl, below_on (below_on (below_alloc W _) b1) (below_alloc _ _)⟩
set_option maxRecDepth 100000 in
set_option maxHeartbeats 1000000 in
theorem set_no {l : List T3} {base : Nat} (h : Cm cb kind v n L W0 W) (hr : HRow W base 53 3 v l.length (cells3 l)) (i : Nat) (hi : i < l.length) (k n1 : Int) (s : ByteArray) (hs : s.size ≤ maxLen) (hc : inC kind (k, n1, s) = false) : Calls Tryz.prog 43 #[(Value.pointer (some ⟨cb, 0, none⟩)), (Value.int .i64 ((i : Int))), (Value.agg #[Value.int .i64 (k), Value.int .i64 (n1), Value.string (s)])] W fun e w' => e = .returned (.bool false) ∧ Below W.heap.size W w' := by
  have ha := at_in (h.later (below_alloc W (.cells #[.int .i64 k, .int .i64 n1, .string s] 53))) (hr.later (below_alloc W (.cells #[.int .i64 k, .int .i64 n1, .string s] 53))) i hi
  have ht := fun y (hy : Below W.heap.size W y) => takes_any (h.later hy) k n1 s hs
  rw [hc] at ht
  generalize l[i] = x at ha
  have hnew := heap_alloc_new W (.cells #[.int .i64 k, .int .i64 n1, .string s] 53)
  obtain ⟨B, hB⟩ : ∃ B, W.heap.size = B := ⟨_, rfl⟩
  have hba := below_alloc W (.cells #[.int .i64 k, .int .i64 n1, .string s] 53)
  rw [hB] at hnew hba ht
  clear hi h hr
  go_enter Tryz.func43, Tryz.ntmps43
  go_wp2_with (first
    | (go_at_call 53; (with_reducible refine ha.mono ?_); rintro e x1 ⟨rfl, b1⟩; have bx : x1.heap[B]? = some (.cells #[.int .i64 k, .int .i64 n1, .string s] 53) := (b1.block B (by simp; omega)).trans hnew; have b0 := nd_cell bx 0; have b1' := nd_cell bx 1; have b2 := nd_cell bx 2; have hlt := lt_of_heap bx; have hb1 : Below B W x1 := hba.trans (b1.mono (by rw [← hB]; simp)))
    | (go_at_call 67; (with_reducible refine (ht _ (hb1.alloc (by omega) _)).mono ?_); rintro e x2 ⟨rfl, b2⟩))
  go_ret
  exact ⟨rfl, by rw [hB]; exact (hb1.alloc (by omega) _).trans (b2.mono (by simp; omega))⟩

def nDn (n : Int) (x : T3) : Int := if x.1 = 0 then n - 1 else n
def lDn (L : List (K 12 × Int)) (x : T3) : List (K 12 × Int) := if x.1 = 2 then takeL (wd x.2.2) L else L
theorem uncount_any (h : Cm cb kind v n L W0 W) (x : T3) (hs : x.1 = 2 → x.2.2.size ≤ 12) (hn : n ≤ 1000000) (hn1 : x.1 = 0 → 1 ≤ n) (hl : L.length + 1 ≤ 999999) :
    Calls Tryz.prog 68 #[(Value.pointer (some ⟨cb, 0, none⟩)), (Value.agg #[Value.int .i64 (x.1), Value.int .i64 (x.2.1), Value.string (x.2.2)])] W fun e w' => e = .returned (.tuple #[]) ∧ Cm cb kind v (nDn n x) (lDn L x) W0 w' ∧ Chg (fun b => b = cb) W w' := by
  obtain ⟨k, n1, s⟩ := x
  unfold nDn lDn
  by_cases h0 : k = 0
  · subst h0
    exact uncount_null h n1 s ⟨hn1 rfl, hn⟩
  · by_cases h2 : k = 2
    · subst h2
      exact uncount_text h n1 s (hs rfl) hl
    · simp only [h0, h2, if_false]
      exact (uncount_other h n1 s k h0 h2).mono (fun e w' ⟨he, hb⟩ => ⟨he, h.later hb, Chg.of_below hb⟩)
theorem tm_lDn (s : K 12) (x : T3) (hs : Srt keyOf L) (hp : ∀ s, 0 ≤ tm s L) : tm s (lDn L x) ≤ tm s L := by
  unfold lDn
  split
  · rw [tm_take _ _ hs (hp _)]
    split
    · rename_i e
      have h1 := hp (wd x.2.2)
      rw [e] at h1 ⊢
      split <;> omega
    · omega
  · omega
theorem len_lDn (x : T3) (hs : Srt keyOf L) : (lDn L x).length ≤ L.length := by
  unfold lDn
  split
  · exact take_len_le _ hs
  · omega
end
end Go.Proofs.YtffpmmphpdkkbaaGreat.Co.S
