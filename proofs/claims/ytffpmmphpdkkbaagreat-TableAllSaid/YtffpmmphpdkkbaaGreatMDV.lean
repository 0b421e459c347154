/- Vals: of a row that can be read its first six values, cut. Which texts a column has, in plain: the first of each. The reference's Words. -/
import Derived.Test.YtffpmmphpdkkbaaGreatMDA
namespace Go.Proofs.YtffpmmphpdkkbaaGreat
open Go Go.RowKit Go.Proofs Co Co.S
def cutT (x : T3) : T3 := (x.1, x.2.1, cutB 20 x.2.2)
def cutR (xs : List T3) : List T3 := (xs.map cutT).take 6
theorem cutR_len (xs : List T3) : (cutR xs).length ≤ 6 := by simp [cutR]; omega
theorem cutR_snoc (xs : List T3) (k : Nat) (h : k < xs.length) : cells3 ((xs.map cutT).take (k + 1)) = cells3 ((xs.map cutT).take k) ++ [.int .i64 xs[k].1, .int .i64 xs[k].2.1, .string (cutB 20 xs[k].2.2)] := by
  rw [List.take_succ_eq_append_getElem (by simpa using h), cells3_append]
  simp [cells3, cutT]
set_option maxRecDepth 100000 in
set_option maxHeartbeats 4000000 in
theorem vals_any {S : Nat → Prop} {v : Value} {xs : List T3} {W : World} (h : InV S W v xs) (hs : ∀ x ∈ xs, x.2.2.size ≤ maxLen) :
    Calls Tryz.prog 12 #[v, .int .i64 6] W fun e w' => ∃ v', e = .returned v' ∧ HRow w' W.heap.size 53 3 v' (cutR xs).length (cells3 (cutR xs)) ∧ Below W.heap.size W w' := by
  obtain ⟨p, c, rfl, _, hm⟩ := h.slice
  obtain ⟨n, hn⟩ : ∃ n, xs.length = n := ⟨_, rfl⟩
  have hn' : (n : Int) ≤ 9223372036854775807 := by unfold maxLen at hm; omega
  have HN := Lib.hid hn
  have HI := Lib.hid h
  have HS := Lib.hid hs
  rw [hn]
  clear h hs hm hn
  go_enter Tryz.func12, Tryz.ntmps12
  go_wp2_with fail
  go_loopg [5, 6] 7 (fun gh tv iv w => ∃ (k : Nat), k ≤ n ∧ k ≤ 6 ∧ 7 ≤ k + gh ∧ iv = .int .i64 (k : Int) ∧ HRow w W.heap.size 53 3 tv k (cells3 ((xs.map cutT).take k)) ∧ Below W.heap.size W w)
  case atStart => exact ⟨0, Nat.zero_le _, Nat.zero_le _, Nat.le_refl _, rfl, HRow.nil, Below.refl _ _⟩
  case round =>
    obtain ⟨k, hk, hk6, hg, rfl, hr, hB⟩ := hrel
    obtain ⟨pt, ct, rfl, _, _⟩ := hr.isslice
    by_cases hlt : k < n ∧ k < 6
    · obtain ⟨h1, h2⟩ := hlt
      have hkl : k < xs.length := by rw [HN.out]; exact h1
      have hd6 : (k : Int) < 6 := by omega
      have hdn : (k : Int) < (n : Int) := by omega
      obtain ⟨b1, o1, rfl, hb1, y0, y1, y2⟩ := (HI.out.later hB).val hkl
      have hsn := cutR_snoc xs k hkl
      have hsz := HS.out _ (List.getElem_mem hkl)
      obtain ⟨u, hu⟩ : ∃ u, xs[k] = u := ⟨_, rfl⟩
      rw [hu] at y0 y1 y2 hsn hsz
      have hval := val_any u.1 u.2.1 u.2.2 wr hsz
      have hap := fun y (hy : Below wr.heap.size wr y) => Co.S.app_one y W.heap.size (hr.later hy) (by omega) (Nat.le_trans hB.size hy.size) u.1 u.2.1 (cutB 20 u.2.2)
      have HB := Lib.hid (And.intro hB (And.intro hsn hr))
      clear hB hsn hsz hu hr
      go_wp2_with (first
        | (go_at_call 39; (with_reducible refine hval.mono ?_); rintro e w2 ⟨rfl, hb2⟩; obtain ⟨g, cap, w3, hrun, r3, g3, o3⟩ := hap w2 hb2; have H3 := Lib.hid (And.intro r3 (And.intro g3 hb2)); clear hval hap r3 g3 o3 hb2)
        | (at_builtin; refine wpList_append_run rfl (.tmp 18) (.tmp 24) 40 rfl rfl rfl hrun ?_))
      go_roundg (6 - k)
      case measure => omega
      case rel =>
        obtain ⟨hB, hsn, hr⟩ := HB.out
        obtain ⟨r3, g3, hb2⟩ := H3.out
        refine ⟨k + 1, by omega, by omega, by omega, rfl, by rw [hsn]; exact r3, ?_⟩
        have hB2 := hB.trans (hb2.mono hB.size)
        refine hB2.trans ⟨g3.os, g3.tape, g3.output, Nat.le_trans (below_alloc w2 _).size g3.size, fun q hq => ?_⟩
        have hlt2 : q < w2.heap.size := Nat.lt_of_lt_of_le hq hB2.size
        rw [g3.block q (by rw [World.size_alloc]; omega) (fun e => by have := (HRow.lt hr q e.symm).1; omega)]
        exact (below_alloc w2 _).block q hlt2
    · have hex : ¬ k < n ∨ (k < n ∧ ¬ k < 6) := by omega
      have HR := Lib.hid (And.intro hr hB)
      have he : cutR xs = (xs.map cutT).take k := by
        unfold cutR
        rcases hex with he | ⟨_, he⟩
        · rw [List.take_of_length_le (l := xs.map cutT) (i := k) (by rw [List.length_map, HN.out]; omega), List.take_of_length_le (by rw [List.length_map, HN.out]; omega)]
        · obtain rfl : k = 6 := by omega
          rfl
      have hl : (cutR xs).length = k := by rw [he, List.length_take, List.length_map, HN.out]; omega
      have HE := Lib.hid (And.intro he hl)
      clear hlt hr hB he hl
      rcases hex with hex | ⟨hex, hex'⟩
      all_goals
        go_wp2_with fail
        go_ret
        exact ⟨_, rfl, by rw [HE.out.2, HE.out.1]; exact HR.out.1, HR.out.2⟩
end Go.Proofs.YtffpmmphpdkkbaaGreat
namespace Go.Proofs.YtffpmmphpdkkbaaGreat
open Go Go.RowKit Go.Proofs Co Co.S
/-- A text that stands there for the first time. -/
def firstB (l : List T3) (i : Nat) : Bool := decide ((l.getD i z3).1 = 2) && (List.range i).all fun j => decide (l.getD j z3 ≠ l.getD i z3)
def firstsP (l : List T3) (n : Nat) : List Nat := (List.range n).filter (firstB l)
theorem firstsP_succ (l : List T3) (n : Nat) : (firstsP l (n + 1)).length = (firstsP l n).length + if firstB l n = true then 1 else 0 := by
  unfold firstsP
  rw [List.range_succ, List.filter_append, List.length_append]
  cases h : firstB l n <;> simp [h]
theorem firstB_iff {l : List T3} {i : Nat} : firstB l i = true ↔ (l.getD i z3).1 = 2 ∧ ∀ j, j < i → l.getD j z3 ≠ l.getD i z3 := by
  unfold firstB
  rw [Bool.and_eq_true, List.all_eq_true, decide_eq_true_iff]
  constructor
  · rintro ⟨h1, h2⟩
    exact ⟨h1, fun j hj => of_decide_eq_true (h2 j (List.mem_range.2 hj))⟩
  · rintro ⟨h1, h2⟩
    exact ⟨h1, fun j hj => decide_eq_true (h2 j (List.mem_range.1 hj))⟩
theorem getD_lt {l : List T3} {i : Nat} (h : i < l.length) : l.getD i z3 = l[i] := by
  rw [List.getD_eq_getElem?_getD, List.getElem?_eq_getElem h]; rfl
theorem same_text {x y : T3} (hx : x.2.1 = 0 ∧ x.2.2.size ≤ 12) (hy : y.2.1 = 0 ∧ y.2.2.size ≤ 12) (h1 : x.1 = 2) (h2 : y.1 = 2) (e : wd x.2.2 = wd y.2.2) : x = y := by
  obtain ⟨k, n, s⟩ := x
  obtain ⟨k', n', s'⟩ := y
  have := wd_inj hx.2 hy.2 e
  simp only at h1 h2 hx hy this
  rw [h1, h2, hx.1, hy.1, this]
/-- The texts, each once. -/
theorem words_list {l : List T3} (hv : ∀ x ∈ l, x.1 = 2 → x.2.1 = 0 ∧ x.2.2.size ≤ 12) :
    ∃ m : List (K 12), m.length = (firstsP l l.length).length ∧ m.Nodup ∧ ∀ s, s ∈ m ↔ ∃ x ∈ l, x.1 = 2 ∧ wd x.2.2 = s := by
  refine ⟨(firstsP l l.length).map (fun i => wd (l.getD i z3).2.2), List.length_map _, ?_, fun s => ⟨fun hs => ?_, ?_⟩⟩
  · have hn : (firstsP l l.length).Pairwise (fun a b => a ≠ b) := List.Pairwise.filter _ List.nodup_range
    unfold List.Nodup
    rw [List.pairwise_map]
    refine hn.imp_of_mem (fun {i j} hi hj hne e => hne ?_)
    obtain ⟨hi1, hi2⟩ := List.mem_filter.1 hi
    obtain ⟨hj1, hj2⟩ := List.mem_filter.1 hj
    have hi1 := List.mem_range.1 hi1
    have hj1 := List.mem_range.1 hj1
    obtain ⟨a1, a2⟩ := firstB_iff.1 hi2
    obtain ⟨b1, b2⟩ := firstB_iff.1 hj2
    have ei : l.getD i z3 ∈ l := by rw [getD_lt hi1]; exact List.getElem_mem hi1
    have ej : l.getD j z3 ∈ l := by rw [getD_lt hj1]; exact List.getElem_mem hj1
    have heq := same_text (hv _ ei a1) (hv _ ej b1) a1 b1 e
    rcases Nat.lt_trichotomy i j with h | h | h
    · exact absurd heq (b2 i h)
    · exact h
    · exact absurd heq.symm (a2 j h)
  · obtain ⟨i, hi, rfl⟩ := List.mem_map.1 hs
    obtain ⟨hi1, hi2⟩ := List.mem_filter.1 hi
    have hi1 := List.mem_range.1 hi1
    exact ⟨l.getD i z3, by rw [getD_lt hi1]; exact List.getElem_mem hi1, (firstB_iff.1 hi2).1, rfl⟩
  · rintro ⟨x, hx, h1, rfl⟩
    have hex : ∃ i, i < l.length ∧ l.getD i z3 = x := by
      obtain ⟨i, hi, rfl⟩ := List.getElem_of_mem hx
      exact ⟨i, hi, getD_lt hi⟩
    have hmin : ∃ i, (i < l.length ∧ l.getD i z3 = x) ∧ ∀ j, j < i → ¬ (j < l.length ∧ l.getD j z3 = x) := by
      obtain ⟨i, hi⟩ := hex
      induction i using Nat.strongRecOn with
      | ind i ih =>
        by_cases h : ∃ j, j < i ∧ j < l.length ∧ l.getD j z3 = x
        · obtain ⟨j, hj, h2⟩ := h
          exact ih j hj h2
        · exact ⟨i, hi, fun j hj h2 => h ⟨j, hj, h2⟩⟩
    obtain ⟨i, ⟨hi, he⟩, hm⟩ := hmin
    refine List.mem_map.2 ⟨i, List.mem_filter.2 ⟨List.mem_range.2 hi, firstB_iff.2 ⟨by rw [he]; exact h1, fun j hj e => hm j hj ⟨by omega, e.trans he⟩⟩⟩, by rw [he]⟩
end Go.Proofs.YtffpmmphpdkkbaaGreat
namespace Go.Proofs.YtffpmmphpdkkbaaGreat
open Go Go.RowKit Go.Proofs Co Co.S
def colL (A : List R1) (c : Nat) : List T3 := A.map fun a => a.2.getD c z3
theorem colL_at {A : List R1} {c j : Nat} (hj : j < A.length) (hc : c < A[j].2.length) : (colL A c).getD j z3 = A[j].2[c] := by
  rw [getD_lt (by simpa [colL] using hj)]
  simp [colL, hc]
/-- Unlike all of the first k. -/
def isP (l : List T3) (j k : Nat) : Bool := decide ((l.getD j z3).1 = 2) && (List.range k).all fun m => decide (l.getD m z3 ≠ l.getD j z3)
theorem isP_zero (l : List T3) (j : Nat) : isP l j 0 = decide ((l.getD j z3).1 = 2) := by simp [isP]
theorem isP_all (l : List T3) (j : Nat) : isP l j j = firstB l j := rfl
theorem isP_succ (l : List T3) (j k : Nat) : isP l j (k + 1) = (isP l j k && decide (l.getD k z3 ≠ l.getD j z3)) := by
  unfold isP
  rw [List.range_succ, List.all_append]
  simp [Bool.and_assoc]
theorem isP_no {l : List T3} {j k : Nat} (hk : k ≤ j) (h : isP l j k = false) : firstB l j = false := by
  cases hf : firstB l j with
  | false => rfl
  | true =>
    obtain ⟨h1, h2⟩ := firstB_iff.1 hf
    have : isP l j k = true := by
      unfold isP
      rw [Bool.and_eq_true, List.all_eq_true]
      exact ⟨decide_eq_true h1, fun m hm => decide_eq_true (h2 m (by have := List.mem_range.1 hm; omega))⟩
    rw [this] at h; cases h
section
variable {W : World} {b next : Nat} {t : T} {A : List R1} {i : DI} {lab : Nat → Nat}
/-- What Words reads. -/
structure DWI (w : World) (b g gr : Nat) (c cr : Nat) (na : Nat) : Prop where
  b1 : w.cell? ⟨b, 1, none⟩ = some (.slice (some ⟨g, 0, none⟩) 1 c)
  g0 : w.cell? ⟨g, 0, none⟩ = some (.slice (some ⟨gr, 0, none⟩) na cr)
  bl : b < w.heap.size
  gl : g < w.heap.size
  rl : gr < w.heap.size
theorem DbM.reads (h : DbM W b t next A i lab) (hc0 : 0 < t.cols.length) (h0 : 0 < A.length) : ∃ g gr c cr, ∀ w, Below W.heap.size W w → DWI w b g gr c cr A.length ∧ ∀ k, k < A.length → ∃ gv cv, w.cell? ⟨gr, k * 2 + 1, none⟩ = some (.slice (some ⟨gv, 0, none⟩) t.cols.length cv) ∧
    ∀ j, j < t.cols.length → w.cell? ⟨gv, j * 3, none⟩ = some (.int .i64 ((colL A j).getD k z3).1) ∧ w.cell? ⟨gv, j * 3 + 1, none⟩ = some (.int .i64 ((colL A j).getD k z3).2.1) ∧ w.cell? ⟨gv, j * 3 + 2, none⟩ = some (.string ((colL A j).getD k z3).2.2) := by
  obtain ⟨g, c, o1, o2, o3, o4⟩ := h.outerC
  obtain ⟨gr, cr, gv, cv, r1, r2, r3, r4, r5, r6, r7⟩ := h.row hc0 h0
  refine ⟨g, gr, c, cr, fun w hb => ?_⟩
  have h' := h.later hb
  obtain ⟨g', c', p1, p2, p3, p4⟩ := h'.outerC
  rw [o1] at p1
  cases p1
  rw [r1] at p3
  refine ⟨⟨p4, p3, lt_of_heap h'.box, p2, Nat.lt_of_lt_of_le r2 hb.size⟩, fun k hk => ?_⟩
  obtain ⟨gr', cr', gv', cv', q1, q2, q3, q4, q5, q6, q7⟩ := h'.row hc0 hk
  rw [r1] at q1
  cases q1
  refine ⟨gv', cv', q4, fun j hj => ?_⟩
  have hjl : j < A[k].2.length := by rw [h.len _ (List.getElem_mem hk)]; exact hj
  rw [colL_at hk hjl]
  obtain ⟨a0, a1, a2⟩ := cells3_at A[k].2 j hjl
  exact ⟨q7.cell a0, q7.cell a1, q7.cell a2⟩
theorem eqV_at (x y : T3) : eqV x.1 x.2.1 x.2.2 y.1 y.2.1 y.2.2 = decide (x = y) := by
  obtain ⟨a, b, c⟩ := x
  obtain ⟨a', b', c'⟩ := y
  unfold eqV
  simp
set_option maxRecDepth 100000 in
set_option maxHeartbeats 8000000 in
theorem dwords_any (h : DbM W b t next A i lab) (hl : A.length ≤ 100000) (hcl : t.cols.length ≤ 1000) (hc0 : 0 < t.cols.length) {c : Nat} (hc : c < t.cols.length) :
    Calls Tryz.prog 49 #[(Value.pointer (some ⟨b, 0, none⟩)), .int .i64 0, .int .i64 (c : Int)] W fun e w' => e = .returned (.int .i64 ((firstsP (colL A c) A.length).length : Int)) ∧ Below W.heap.size W w' := by
  obtain ⟨n, hn⟩ : ∃ n, A.length = n := ⟨_, rfl⟩
  obtain ⟨nc, hnc⟩ : ∃ n, t.cols.length = n := ⟨_, rfl⟩
  obtain ⟨l, hll⟩ : ∃ l, colL A c = l := ⟨_, rfl⟩
  have hn' : (n : Int) ≤ 100000 := by omega
  have hci : (c : Int) < (nc : Int) := by omega
  have hci' : (nc : Int) ≤ 1000 := by omega
  rw [hll, hn]
  cases n with
  | zero =>
    obtain ⟨g, c1, o1, o2, o3, o4⟩ := h.outerC
    obtain ⟨pr, c2, hrv, _, _⟩ := h.rows.isslice
    rw [hrv, hn] at o3
    have xl := lt_of_heap h.box
    clear h hrv hn hnc hll
    go_enter Tryz.func49, Tryz.ntmps49
    go_wp2_with fail
    go_loopg [7, 8] 1 (fun gh cv iv w => cv = .int .i64 0 ∧ iv = .int .i64 0 ∧ w = W)
    case atStart => exact ⟨rfl, rfl, rfl⟩
    case round =>
      obtain ⟨rfl, rfl, rfl⟩ := hrel
      go_wp2_with fail
      go_ret
      exact ⟨rfl, Below.refl _ _⟩
  | succ n0 =>
    obtain ⟨g, gr, c1, cr, hrd⟩ := h.reads hc0 (by omega)
    rw [hn, hnc] at hrd
    obtain ⟨n, hnn⟩ : ∃ n, n0 + 1 = n := ⟨_, rfl⟩
    rw [hnn] at hrd hn' hn ⊢
    have HRD := Lib.hid hrd
    have HN := Lib.hid (And.intro hn (And.intro hnc (And.intro hll hc)))
    clear h hrd hn hnc hll hc hl hcl hc0 hnn
    go_enter Tryz.func49, Tryz.ntmps49
    go_wp2_with fail
    go_loopg [7, 8] (n + 1) (fun gh cv iv w => ∃ (j : Nat), iv = .int .i64 (j : Int) ∧ j ≤ n ∧ n + 1 ≤ j + gh ∧ cv = .int .i64 ((firstsP l j).length : Int) ∧ Below W.heap.size W w)
    case atStart => exact ⟨0, rfl, Nat.zero_le _, by omega, rfl, Below.refl _ _⟩
    case round =>
      obtain ⟨j, rfl, hj, hg, rfl, hB⟩ := hrel
      have hcnt : (firstsP l j).length ≤ j := Nat.le_trans (List.length_filter_le _ _) (by rw [List.length_range]; exact Nat.le_refl _)
      obtain ⟨D, D2⟩ := HRD.out wr hB
      have x1 := D.b1
      have x2 := D.g0
      have xl := D.bl
      have xg := D.gl
      have xr := D.rl
      by_cases hlt : j < n
      · have hji : (j : Int) < (n : Int) := by omega
        obtain ⟨gv, cv, y0, y1⟩ := D2 j hlt
        obtain ⟨y1, y2, y3⟩ := y1 c (by omega)
        rw [HN.out.2.2.1] at y1 y2 y3
        obtain ⟨u, hu⟩ : ∃ u, l.getD j z3 = u := ⟨_, rfl⟩
        rw [hu] at y1 y2 y3
        obtain ⟨m, hm⟩ : ∃ m, (firstsP l j).length = m := ⟨_, rfl⟩
        have hmi : (m : Int) ≤ 100000 := by omega
        rw [hm]
        have HB := Lib.hid (And.intro hB (And.intro hu hm))
        clear D D2 hB hu hm hcnt
        go_upto_region 6 with fail
        have hV := heap_alloc_new wr (.cells #[.int .i64 u.1, .int .i64 u.2.1, .string u.2.2] 53)
        have hbV := below_alloc wr (.cells #[.int .i64 u.1, .int .i64 u.2.1, .string u.2.2] 53)
        obtain ⟨w1, hw1⟩ : ∃ w1, wr.alloc (.cells #[.int .i64 u.1, .int .i64 u.2.1, .string u.2.2] 53) = w1 := ⟨_, rfl⟩
        obtain ⟨V, hVe⟩ : ∃ V, wr.heap.size = V := ⟨_, rfl⟩
        rw [hw1] at hV hbV ⊢
        rw [hVe] at hV ⊢
        have hb1 := below_on HB.out.1 hbV
        have z0 := nd_cell hV 0
        have H1 := Lib.hid (And.intro hV hb1)
        have hu2 : isP l j 0 = (u.1 == 2) := by
          rw [isP_zero, HB.out.2.1, Bool.eq_iff_iff]; simp
        clear hV hbV hw1 hVe hb1 x1 x2 xl xg xr y0 y1 y2 y3
        go_upto_region 7 with fail
        rw [← hu2]
        clear z0 hu2
        go_upto_block 2 with fail
        go_cut [10] from 300 to 300 (fun gv wx => gv = .bool (firstB l j) ∧ Below W.heap.size W wx)
        case first =>
          go_wp2_with fail
          go_loopg [10, 11] (j + 1) (fun gh gv kv w => ∃ (k : Nat), kv = .int .i64 (k : Int) ∧ k ≤ j ∧ j + 1 ≤ k + gh ∧ gv = .bool (isP l j k) ∧ Below w1.heap.size w1 w)
          case atStart => exact ⟨0, rfl, Nat.zero_le _, by omega, rfl, Below.refl _ _⟩
          case round =>
            obtain ⟨k, rfl, hkj, hgk, rfl, hBk⟩ := hrel
            cases hp : isP l j k
            · have HBk := Lib.hid (And.intro (below_on H1.out.2 hBk) (isP_no hkj hp))
              by_cases hkl : (k : Int) < (j : Int)
              all_goals
                clear hBk hp
                go_wp2_with fail
                go_meet
                exact ⟨by rw [HBk.out.2], HBk.out.1⟩
            · by_cases hlk : k < j
              · have hkl : (k : Int) < (j : Int) := by omega
                have hkn : (k : Int) < (n : Int) := by omega
                have hkn' : k < n := by omega
                obtain ⟨D, D2⟩ := HRD.out wr (below_on H1.out.2 hBk)
                obtain ⟨gv', cv', y0, y1⟩ := D2 k hkn'
                obtain ⟨y1, y2, y3⟩ := y1 c (by omega)
                rw [HN.out.2.2.1] at y1 y2 y3
                obtain ⟨x, hx⟩ : ∃ x, l.getD k z3 = x := ⟨_, rfl⟩
                rw [hx] at y1 y2 y3
                have hVk := heap_on hBk H1.out.1
                have HC : Hid (∀ w, Below wr.heap.size wr w → (w.cell? ⟨b, 1, none⟩ = some (.slice (some ⟨g, 0, none⟩) 1 c1) ∧ w.cell? ⟨g, 0, none⟩ = some (.slice (some ⟨gr, 0, none⟩) n cr) ∧ w.cell? ⟨gr, k * 2 + 1, none⟩ = some (.slice (some ⟨gv', 0, none⟩) nc cv')) ∧ (b < w.heap.size ∧ gr < w.heap.size) ∧
                    (w.cell? ⟨gv', c * 3, none⟩ = some (.int .i64 x.1) ∧ w.cell? ⟨gv', c * 3 + 1, none⟩ = some (.int .i64 x.2.1) ∧ w.cell? ⟨gv', c * 3 + 2, none⟩ = some (.string x.2.2)) ∧ w.heap[V]? = some (.cells #[.int .i64 u.1, .int .i64 u.2.1, .string u.2.2] 53)) := Lib.hid (fun w hb => by
                  have tr : ∀ {a : Addr} {v : Value}, wr.cell? a = some v → w.cell? a = some v := fun h => (World.cell?_of_block (w := wr) (hb.block _ (World.block_lt_of_cell? _ _ h))).trans h
                  exact ⟨⟨tr D.b1, tr D.g0, tr y0⟩, ⟨Nat.lt_of_lt_of_le D.bl hb.size, Nat.lt_of_lt_of_le D.rl hb.size⟩, ⟨tr y1, tr y2, tr y3⟩, heap_on hb hVk⟩)
                have heq := fun w => refEq_any x.1 x.2.1 x.2.2 u.1 u.2.1 u.2.2 w
                simp only [eqV_at] at heq
                have HBk := Lib.hid (And.intro hBk (And.intro hp hx))
                clear D D2 y0 y1 y2 y3 hVk hBk hp hx
                go_upto_region 10 with fail
                refine Par.wp_region_par 15 [(Value.pointer (some ⟨b, 0, none⟩)), (Value.pointer (some ⟨b, 0, none⟩)), (Value.pointer (some ⟨b, 1, none⟩)), .slice (some ⟨g, 0, none⟩) 1 c1, (Value.int .i64 (0)), (Value.pointer (some ⟨g, 0, none⟩)), .slice (some ⟨gr, 0, none⟩) n cr, (Value.int .i64 ((k : Int))), (Value.pointer (some ⟨gr, k * 2, none⟩)), (Value.pointer (some ⟨gr, k * 2 + 1, none⟩)), .slice (some ⟨gv', 0, none⟩) nc cv', (Value.int .i64 ((c : Int))), (Value.pointer (some ⟨gv', c * 3, none⟩)), (Value.agg #[Value.int .i64 (x.1), Value.int .i64 (x.2.1), Value.string (x.2.2)]), (Value.agg #[Value.int .i64 (u.1), Value.int .i64 (u.2.1), Value.string (u.2.2)])] (fun w => Below wr.heap.size wr w) ?A1 ?hm1 ?hB1 ?hA1 ((below_drew wr)) ?hop1 ?hT1
                case hm1 => kernel_rfl
                case hB1 => kernel_rfl
                case hA1 =>
                  simp only [Par.putA, Par.dstAt, Act.put, List.getElem?_toArray, List.getElem?_cons_zero, List.getElem?_cons_succ, Option.bind_some, List.setIfInBounds_toArray, List.set_cons_zero, List.set_cons_succ, List.getD_cons_zero, List.getD_cons_succ]
                  rfl
                case hop1 =>
                  simp only [List.take_succ_cons, List.take_zero, Par.GiveAll, and_true]
                  refine ⟨fun w' hR => ?_, fun w' hR => ?_, fun w' hR => ?_, fun w' hR => ?_, fun w' hR => ?_, fun w' hR => ?_, fun w' hR => ?_, fun w' hR => ?_, fun w' hR => ?_, fun w' hR => ?_, fun w' hR => ?_, fun w' hR => ?_, fun w' hR => ?_, fun w' hR => ?_, fun w' hR => ?_⟩
                  · have HR := Lib.hid hR
                    clear hR
                    simp only [Par.Gives]
                    go_simp
                    all_goals exact HR.out
                  · have HR := Lib.hid hR
                    have zl := (HC.out w' hR).2.1.1
                    clear hR
                    simp only [Par.Gives]
                    go_simp
                    all_goals exact HR.out
                  · have HR := Lib.hid hR
                    have zl := (HC.out w' hR).2.1.1
                    clear hR
                    simp only [Par.Gives]
                    go_simp
                    all_goals exact HR.out
                  · have HR := Lib.hid hR
                    have x0 := (HC.out w' hR).1.1
                    clear hR
                    simp only [Par.Gives]
                    go_simp
                    all_goals exact HR.out
                  · have HR := Lib.hid hR
                    clear hR
                    simp only [Par.Gives]
                    go_simp
                    all_goals exact HR.out
                  · have HR := Lib.hid hR
                    clear hR
                    simp only [Par.Gives]
                    go_simp
                    all_goals exact HR.out
                  · have HR := Lib.hid hR
                    have x0 := (HC.out w' hR).1.2.1
                    clear hR
                    simp only [Par.Gives]
                    go_simp
                    all_goals exact HR.out
                  · have HR := Lib.hid hR
                    clear hR
                    simp only [Par.Gives]
                    go_simp
                    all_goals exact HR.out
                  · have HR := Lib.hid hR
                    clear hR
                    simp only [Par.Gives]
                    go_simp
                    all_goals exact HR.out
                  · have HR := Lib.hid hR
                    have zl := (HC.out w' hR).2.1.2
                    clear hR
                    simp only [Par.Gives]
                    go_simp
                    all_goals exact HR.out
                  · have HR := Lib.hid hR
                    have x0 := (HC.out w' hR).1.2.2
                    clear hR
                    simp only [Par.Gives]
                    go_simp
                    all_goals exact HR.out
                  · have HR := Lib.hid hR
                    clear hR
                    simp only [Par.Gives]
                    go_simp
                    all_goals exact HR.out
                  · have HR := Lib.hid hR
                    clear hR
                    simp only [Par.Gives]
                    go_simp
                    all_goals exact HR.out
                  · have HR := Lib.hid hR
                    have x0 := (HC.out w' hR).2.2.1.1
                    have x1 := (HC.out w' hR).2.2.1.2.1
                    have x2 := (HC.out w' hR).2.2.1.2.2
                    clear hR
                    simp only [Par.Gives]
                    go_simp
                    all_goals exact HR.out
                  · have HR := Lib.hid hR
                    have x0 := nd_cell (HC.out w' hR).2.2.2 0
                    have x1 := nd_cell (HC.out w' hR).2.2.2 1
                    have x2 := nd_cell (HC.out w' hR).2.2.2 2
                    clear hR
                    simp only [Par.Gives]
                    go_simp
                    all_goals exact HR.out
                case hT1 =>
                  intro w' hR
                  simp only [List.drop_succ_cons, List.drop_zero]
                  have HR := Lib.hid hR
                  have heq := heq w'
                  clear hR
                  go_wp2_with (go_at_call 48; (with_reducible refine heq.mono ?_); rintro e w4 ⟨rfl, hb4⟩; have H4 := Lib.hid (below_on HBk.out.1 (HR.out.trans (hb4.mono HR.out.size))); clear heq hb4)
                  go_roundg (j - k)
                  case measure => omega
                  case rel => exact ⟨k + 1, rfl, by omega, by omega, by rw [isP_succ, HBk.out.2.1, HBk.out.2.2, HB.out.2.1]; simp, H4.out⟩
              · obtain rfl : k = j := by omega
                have HBk := Lib.hid (And.intro (below_on H1.out.2 hBk) hp)
                clear hBk hp
                go_wp2_with fail
                go_meet
                exact ⟨by rw [← isP_all, HBk.out.2], HBk.out.1⟩
        case rest =>
          obtain ⟨rfl, hBc⟩ := hcut
          have HBc := Lib.hid hBc
          have hsucc := firstsP_succ l j
          rw [HB.out.2.2] at hsucc
          cases hf : firstB l j
          · rw [hf] at hsucc
            have HS := Lib.hid hsucc
            clear hBc hf hsucc
            go_wp2_with fail
            go_roundg (n - j)
            case measure => omega
            case rel => exact ⟨j + 1, rfl, by omega, by omega, by rw [HS.out]; rfl, HBc.out⟩
          · rw [hf] at hsucc
            have HS := Lib.hid hsucc
            clear hBc hf hsucc
            go_wp2_with fail
            go_roundg (n - j)
            case measure => omega
            case rel => exact ⟨j + 1, rfl, by omega, by omega, by rw [HS.out]; rfl, HBc.out⟩
      · obtain rfl : j = n := by omega
        clear D D2
        go_wp2_with fail
        go_ret
        exact ⟨rfl, hB⟩
end
end Go.Proofs.YtffpmmphpdkkbaaGreat
