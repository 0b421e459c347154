/- Of. Runs, as pairs. -/
import Derived.Test.YtffpmmphpdkkbaaGreatMBHW
import Derived.Laws.OwnMore
namespace Go.Proofs.YtffpmmphpdkkbaaGreat
open Go Go.RowKit Go.Proofs

def inB (x : Int) : Bool := decide (0 ≤ x ∧ x < 65536)
/-- Those of xs that may be in a set. -/
def ofP (xs : List Int) (x : Int) : Bool := decide (x ∈ xs) && inB x
theorem of_is (xs : List Int) : Nrm (ofL (sorted (xs.filter inB))) ∧ Is (ofL (sorted (xs.filter inB))) (ofP xs) := by
  have hb : ∀ y ∈ sorted (xs.filter inB), 0 ≤ y ∧ y < 65536 := fun y hy => by
    rw [sorted_mem, List.mem_filter] at hy
    exact of_decide_eq_true hy.2
  obtain ⟨h1, h2, _⟩ := ofL_ok _ (sorted_srt (xs.filter inB)) hb
  refine ⟨h1, fun x => ?_⟩
  rw [h2, sorted_mem, List.mem_filter]
  unfold ofP
  rw [Bool.and_eq_true, decide_eq_true_eq]

set_option maxRecDepth 100000 in
set_option maxHeartbeats 2000000 in
theorem of_any {p : Option Addr} {xs : List Int} {n c : Nat} {W : World} (hn : xs.length = n) (hl : n ≤ 100000) (hr : Rd W p xs) : Calls Tryz.prog 64 #[.slice p n c] W (IsMap (ofP xs) W) := by
  have hB1 := below_alloc W (.cells #[.slice none 0 0] 70)
  have h01 := heap_alloc_new W (.cells #[.slice none 0 0] 70)
  obtain ⟨S, hS⟩ : ∃ S, W.heap.size = S := ⟨_, rfl⟩
  have hz1 : (W.alloc (.cells #[.slice none 0 0] 70)).heap.size = S + 1 := by simp [hS]
  obtain ⟨W1, hW1⟩ : ∃ W1, W.alloc (.cells #[.slice none 0 0] 70) = W1 := ⟨_, rfl⟩
  rw [hW1] at hB1 h01 hz1
  rw [hS] at h01
  have HW := Lib.hid (And.intro hB1 (And.intro h01 (And.intro hz1 (And.intro hS hn))))
  have HW1 := Lib.hid hW1
  have HR := Lib.hid (hr.later hB1)
  clear hB1 h01 hz1 hS hW1 hr hn
  go_enter Tryz.func64, Tryz.ntmps64
  go_upto_block 0 with fail
  rw [HW1.out, HW.out.2.2.2.1]
  go_cut [3] from 200 to 200 (fun ov w => Ro w (S + 1) ov (xs.filter inB) ∧ Below (S + 1) W1 w)
  case first =>
    go_wp2_with fail
    go_loopg [3, 11] (n + 1) (fun gh ov jv w => ∃ (j : Nat) (ys : List Int), jv = .int .i64 (j : Int) ∧ j ≤ n ∧ n + 1 ≤ j + gh ∧ ys = (xs.take j).filter inB ∧ ys.length ≤ j ∧ Ro w (S + 1) ov ys ∧ Below (S + 1) W1 w)
    case atStart => exact ⟨0, [], rfl, Nat.zero_le _, by omega, by simp, Nat.zero_le _, HRow.nil, Below.refl _ _⟩
    case round =>
      obtain ⟨j, ys, rfl, hj, hg, hys, hyl, hO, hB⟩ := hrel
      obtain ⟨m, hm⟩ : ∃ m, ys.length = m := ⟨_, rfl⟩
      obtain ⟨pl, cl, rfl, hc, hcm⟩ := HRow.isslice hO
      rw [hm] at hc hyl ⊢
      have HI := Lib.hid (And.intro hys (And.intro hO (And.intro hB hm)))
      clear hys hO hB hm
      by_cases hlt : j < n
      · have hjx : j < xs.length := by rw [HW.out.2.2.2.2]; exact hlt
        have hBW : Below W1.heap.size W1 wr := HI.out.2.2.1.mono (by rw [HW.out.2.2.1]; exact Nat.le_refl _)
        obtain ⟨b, off, rfl, hbW, c0⟩ := (HR.out.later hBW) j hjx
        obtain ⟨x, hx⟩ : ∃ x, xs[j] = x := ⟨_, rfl⟩
        rw [hx] at c0
        have HX : Hid (xs.take (j + 1) = xs.take j ++ [x]) := Lib.hid (by rw [List.take_succ_eq_append_getElem hjx, hx])
        clear hx hBW
        by_cases h0 : 0 ≤ x
        · by_cases h1 : x < 65536
          · have hO' : Ro wr (S + 1) (.slice pl m cl) ys := by rw [← HI.out.2.2.2]; exact HI.out.2.1
            obtain ⟨g, cap', w3, hrun, r3, g3, o3⟩ := app_int 35 Tryz.underlying35 wr (S + 1) HI.out.2.2.2 hO' (by omega) (by have := HI.out.2.2.1.size; rw [HW.out.2.2.1] at this; exact this) x
            have HK := Lib.hid (And.intro r3 (below_row (n := S + 1) hO' g3 (Nat.le_refl _) (by have := HI.out.2.2.1.size; rw [HW.out.2.2.1] at this; exact this)))
            clear r3 g3 o3 hO'
            go_wp2_with (at_builtin; refine wpList_append_run rfl (.tmp 21) (.tmp 23) 35 rfl rfl rfl hrun ?_)
            go_roundg (n - j)
            case measure => omega
            case rel => exact ⟨j + 1, ys ++ [x], by go_num, by omega, by omega, by rw [HX.out, List.filter_append, ← HI.out.1, List.filter_cons_of_pos (show inB x = true from decide_eq_true (by omega))]; rfl, by rw [List.length_append, HI.out.2.2.2]; simp; omega, HK.out.1, HI.out.2.2.1.trans HK.out.2⟩
          · go_wp2_with fail
            go_roundg (n - j)
            case measure => omega
            case rel => exact ⟨j + 1, ys, by go_num, by omega, by omega, by rw [HX.out, List.filter_append, ← HI.out.1, List.filter_cons_of_neg (by rw [show inB x = false from decide_eq_false (by omega)]; decide)]; simp, by rw [HI.out.2.2.2]; omega, by rw [← HI.out.2.2.2]; exact HI.out.2.1, HI.out.2.2.1⟩
        · go_wp2_with fail
          go_roundg (n - j)
          case measure => omega
          case rel => exact ⟨j + 1, ys, by go_num, by omega, by omega, by rw [HX.out, List.filter_append, ← HI.out.1, List.filter_cons_of_neg (by rw [show inB x = false from decide_eq_false (by omega)]; decide)]; simp, by rw [HI.out.2.2.2]; omega, by rw [← HI.out.2.2.2]; exact HI.out.2.1, HI.out.2.2.1⟩
      · go_wp2_with fail
        go_meet
        have e : xs.take j = xs := List.take_of_length_le (by rw [HW.out.2.2.2.2]; omega)
        have h := HI.out.1
        rw [e] at h
        rw [← h, ← HI.out.2.2.2]
        exact ⟨HI.out.2.1, HI.out.2.2.1⟩
  case rest =>
    obtain ⟨hO, hB⟩ := hcut
    obtain ⟨h1, h2⟩ := of_is xs
    have hlen : (xs.filter inB).length ≤ n := by rw [← HW.out.2.2.2.2]; exact List.length_filter_le _ _
    have hb : ∀ y ∈ sorted (xs.filter inB), 0 ≤ y ∧ y < 65536 := fun y hy => by
      rw [sorted_mem, List.mem_filter] at hy
      exact of_decide_eq_true hy.2
    have hsrt := sorted_srt (xs.filter inB)
    have hsl := sorted_len (xs.filter inB)
    have hs := sort_any hO (by omega)
    obtain ⟨zs, hzs⟩ : ∃ zs, sorted (xs.filter inB) = zs := ⟨_, rfl⟩
    rw [hzs] at h1 h2 hb hsrt hsl hs
    rw [← hsl] at hlen
    obtain ⟨m, hm⟩ : ∃ m, zs.length = m := ⟨_, rfl⟩
    obtain ⟨pl, cl, rfl, hc, hcm⟩ := HRow.isslice hO
    rw [← hsl, hm] at hc hs ⊢
    rw [hm] at hlen
    have hrow := hO
    rw [← hsl, hm] at hrow
    have HI := Lib.hid (And.intro h1 (And.intro h2 (And.intro hb (And.intro hsrt (And.intro hm hB)))))
    have HO := Lib.hid hrow
    clear h1 h2 hb hsrt hm hB hO hrow hsl hzs
    go_upto_block 2 with (go_at_call 84; (with_reducible refine hs.mono ?_); rintro e x1 ⟨rfl, r1, g1⟩; clear hs; have hB1 := HI.out.2.2.2.2.2.trans (below_row HO.out g1 (Nat.le_refl _) (by have := HI.out.2.2.2.2.2.size; rw [HW.out.2.2.1] at this; exact this)); have H1 := Lib.hid (And.intro r1 hB1); clear r1 g1 hB1)
    have hM := mk_start x1
    obtain ⟨mb, hmb⟩ : ∃ mb, x1.heap.size = mb := ⟨_, rfl⟩
    obtain ⟨ws, hws⟩ : ∃ ws, x1.alloc (.cells #[.slice none 0 0] 70) = ws := ⟨_, rfl⟩
    have hBs : Below mb x1 ws := by rw [← hws, ← hmb]; exact below_alloc x1 _
    rw [hws, hmb] at hM
    rw [hws, hmb]
    have hSm : S + 1 ≤ mb := by have := H1.out.2.size; rw [HW.out.2.2.1, hmb] at this; exact this
    have HM := Lib.hid (And.intro hM (And.intro hBs (And.intro hmb hws)))
    have HR2 : Hid (Rd x1 pl zs) := Lib.hid (by
      have h := H1.out.1
      have e : zs.length = m := HI.out.2.2.2.2.1
      have h : Ro x1 (S + 1) (.slice pl zs.length cl) zs := by unfold Ro at h ⊢; rw [e] at h ⊢; exact h
      exact Ro.rd h)
    clear hM hmb hws hBs
    go_wp2_with fail
    go_loopg [30] (m + 1) (fun gh jv w => ∃ (j : Nat) (v : Value), jv = .int .i64 (j : Int) ∧ j ≤ m ∧ m + 1 ≤ j + gh ∧ Mk w mb v (ofL (zs.take j)) ∧ Below mb x1 w)
    case atStart => exact ⟨0, _, rfl, Nat.zero_le _, by omega, HM.out.1, HM.out.2.1⟩
    case round =>
      obtain ⟨j, v, rfl, hj, hg, hMk, hB⟩ := hrel
      have HK := Lib.hid (And.intro hMk hB)
      clear hMk hB
      by_cases hlt : j < m
      · have hjz : j < zs.length := by rw [HI.out.2.2.2.2.1]; exact hlt
        obtain ⟨b, off, rfl, hbw, c0⟩ := HR2.out j hjz
        have c0 := (HK.out.2.cell (p := ⟨b, off + j, none⟩) (by rw [← HM.out.2.2.1]; exact hbw)).trans c0
        obtain ⟨x, hx⟩ : ∃ x, zs[j] = x := ⟨_, rfl⟩
        rw [hx] at c0
        have HX : Hid (zs.take (j + 1) = zs.take j ++ [x]) := Lib.hid (by rw [List.take_succ_eq_append_getElem hjz, hx])
        have hb := HI.out.2.2.1 x (by rw [← hx]; exact List.getElem_mem _)
        have hxl : x < 65536 := hb.2
        have hx0 : 0 ≤ x := hb.1
        have hpre : (zs.take j).Pairwise (· ≤ ·) := (HI.out.2.2.2.1).sublist (List.take_sublist _ _)
        have hnrm := (ofL_ok (zs.take j) hpre (fun y hy => HI.out.2.2.1 y (List.mem_of_mem_take hy))).1
        have hadd := add_any (f := x) (t := x + 1) hnrm HK.out.1
        clear hx hb hpre hnrm
        go_wp2_with (go_at_call 80; (with_reducible refine hadd.mono ?_); rintro e x2 ⟨rfl, v1, k1, g1, o1⟩; clear hadd; have H2 := Lib.hid (And.intro k1 g1); clear k1 g1 o1)
        go_roundg (m - j)
        case measure => omega
        case rel => exact ⟨j + 1, v1, by go_num, by omega, by omega, by rw [HX.out, ofL_snoc]; exact H2.out.1, HK.out.2.trans (HK.out.1.below' H2.out.2)⟩
      · have e : zs.take j = zs := List.take_of_length_le (by rw [HI.out.2.2.2.2.1]; omega)
        have hk := HK.out
        rw [e] at hk
        have hBw : Below (S + 1) W1 wr := H1.out.2.trans (hk.2.mono hSm)
        have z2 := (hBw.block S (Nat.lt_succ_self S)).trans HW.out.2.1
        have z0 := nd_cell z2 0
        have zf := frozen_of_row wr S 0 _ _ z2
        obtain ⟨p1, n1, cp1, rfl⟩ := hk.1.slc
        have m0 := hk.1.1.1
        have s0 := World.cell?_setCell_same wr ⟨S, 0, none⟩ (.slice p1 n1 cp1) z0
        have HE := Lib.hid (fin_map hk.1 (rb := S) (by omega) HI.out.1 HI.out.2.1 (HW.out.1.trans (hBw.mono (by rw [HW.out.2.2.2.1]; omega))) (show W.heap.size ≤ S by rw [HW.out.2.2.2.1]; exact Nat.le_refl _))
        clear e hk hBw z2
        go_wp2_with fail
        refine bodyPost_ret (v := .agg #[.slice p1 n1 cp1]) (by simp [results, Tryz.results64, go_sem, s0]) rfl ?_
        exact HE.out
end Go.Proofs.YtffpmmphpdkkbaaGreat
namespace Go.Proofs.YtffpmmphpdkkbaaGreat
open Go Go.RowKit Go.Proofs

def cells2 (l : List R2) : List Value := l.flatMap fun x => [.int .i64 x.1, .int .i64 x.2]
theorem cells2_append (xs ys : List R2) : cells2 (xs ++ ys) = cells2 xs ++ cells2 ys := by simp [cells2]
theorem cells2_cons (x : R2) (r : List R2) : cells2 (x :: r) = .int .i64 x.1 :: .int .i64 x.2 :: cells2 r := by simp [cells2]
theorem cells2_len (xs : List R2) : (cells2 xs).length = xs.length * 2 := by
  induction xs with
  | nil => rfl
  | cons x r ih => rw [cells2_cons, List.length_cons, List.length_cons, List.length_cons, ih]; omega
theorem cells2_at (xs : List R2) (i : Nat) (x : R2) (h : xs[i]? = some x) : (cells2 xs)[i * 2]? = some (.int .i64 x.1) ∧ (cells2 xs)[i * 2 + 1]? = some (.int .i64 x.2) := by
  induction xs generalizing i with
  | nil => simp at h
  | cons y r ih =>
    cases i with
    | zero => simp at h; subst h; simp [cells2_cons]
    | succ i =>
      have := ih i (by simpa using h)
      rw [cells2_cons, show (i + 1) * 2 = i * 2 + 1 + 1 by omega]
      simp only [List.getElem?_cons_succ]
      exact this
theorem cells2_set (xs : List R2) (i : Nat) (x : R2) : cells2 (xs.set i x) = ((cells2 xs).set (i * 2) (.int .i64 x.1)).set (i * 2 + 1) (.int .i64 x.2) := by
  induction xs generalizing i with
  | nil => simp [cells2]
  | cons y r ih =>
    cases i with
    | zero => simp [cells2_cons]
    | succ i =>
      rw [List.set_cons_succ, cells2_cons, cells2_cons, ih i, show (i + 1) * 2 = i * 2 + 1 + 1 by omega]
      simp only [List.set_cons_succ]
theorem cells2_zeros (n : Nat) : cells2 (List.replicate n (0, 0)) = List.replicate (n * 2) (Value.int .i64 0) := by
  induction n with
  | zero => rfl
  | succ n ih => rw [List.replicate_succ, cells2_cons, ih, show (n + 1) * 2 = n * 2 + 1 + 1 by omega, List.replicate_succ, List.replicate_succ]
theorem made2 (n : Nat) : (madeCells #[Value.int .i64 0, Value.int .i64 0] (n * 2)).toList = cells2 (List.replicate n (0, 0)) := by
  rw [cells2_zeros]
  apply List.ext_getElem (by simp [madeCells])
  intro i h1 h2
  have hm : i % 2 = 0 ∨ i % 2 = 1 := by omega
  simp only [madeCells, Array.toList_map, List.getElem_map, List.getElem_replicate, Array.toList_range, List.getElem_range]
  rcases hm with h | h
  · simp [h]
  · simp [h]
theorem info43 : (Tryz.prog.info? 133).map (fun i => (i.zero, i.size, i.bytes)) = some (some (.agg #[.int .i64 0, .int .i64 0]), 2, 16) := by kernel_rfl
/-- A row of pairs. -/
abbrev Rp (W : World) (base : Nat) (v : Value) (l : List R2) : Prop := HRow W base 133 2 v l.length (cells2 l)
theorem make_pairs (n : Nat) (hn : n ≤ 65536) (w : World) : ∃ w', (Instr.makeSlice 131 (.int .i64 (n : Int)) (.int .i64 (n : Int))).run Tryz.prog w = .ok (.slice (some ⟨w.heap.size, 0, none⟩) n n) w' ∧ HRow w' w.heap.size 133 2 (.slice (some ⟨w.heap.size, 0, none⟩) n n) n (cells2 (List.replicate n (0, 0))) ∧ w.grownBy w' none := by
  obtain ⟨i0, hi0, hz0, hz1, hz2⟩ := info_parts info43
  obtain ⟨w', h1, h2, h3⟩ := run_make_full (P := Tryz.prog) w w.heap.size 131 133 i0 _ 2 Tryz.underlying131 hi0 hz0 hz1 .i64 .i64 n (by rw [hz2]; omega) (by unfold maxLen; omega) (Nat.le_refl _)
  refine ⟨w', h1, ?_, h3⟩
  rw [← made2]
  exact HRow.of_own h2
/-- A pair put into a row. -/
theorem Rp.put {w : World} {base g cap : Nat} {l : List R2} (h : HRow w base 133 2 (.slice (some ⟨g, 0, none⟩) l.length cap) l.length (cells2 l)) (i : Nat) (x : R2) :
    HRow ((w.setCell ⟨g, i * 2, none⟩ (Value.int .i64 (x.1))).setCell ⟨g, i * 2 + 1, none⟩ (Value.int .i64 (x.2))) base 133 2 (.slice (some ⟨g, 0, none⟩) l.length cap) l.length (cells2 (l.set i x)) ∧
      w.grownBy ((w.setCell ⟨g, i * 2, none⟩ (Value.int .i64 (x.1))).setCell ⟨g, i * 2 + 1, none⟩ (Value.int .i64 (x.2))) (some g) := by
  obtain ⟨h1, h2⟩ := HRow.stored h (i * 2) (Value.int .i64 (x.1))
  obtain ⟨h3, h4⟩ := HRow.stored h1 (i * 2 + 1) (Value.int .i64 (x.2))
  rw [cells2_set]
  exact ⟨h3, ⟨h4.os.trans h2.os, h4.tape.trans h2.tape, h4.output.trans h2.output, Nat.le_trans h2.size h4.size, fun k hk hne => (h4.block k (Nat.lt_of_lt_of_le hk h2.size) hne).trans (h2.block k hk hne)⟩⟩

/-- The answer is a row of the runs l. -/
def RunsAre (l : List R2) (W : World) (e : Ending) (w' : World) : Prop := ∃ v, e = .returned v ∧ Rp w' 0 v l ∧ Below W.heap.size W w'
set_option maxRecDepth 100000 in
set_option maxHeartbeats 2000000 in
theorem runs_any {la : List R2} {va : Value} {W : World} (ha : Nrm la) (hva : Mv W va la) : Calls Tryz.prog 76 #[.agg #[va]] W (RunsAre la W) := by
  have hla := runs_len ha
  obtain ⟨pa, ca, rfl, _, _⟩ := hva.slice
  have h0 := heap_alloc_new W (.cells #[.slice pa la.length ca] 70)
  have hB := below_alloc W (.cells #[.slice pa la.length ca] 70)
  obtain ⟨na, hna⟩ : ∃ na, la.length = na := ⟨_, rfl⟩
  obtain ⟨S, hS⟩ : ∃ S, W.heap.size = S := ⟨_, rfl⟩
  rw [hna] at hla h0 hB ⊢
  rw [hS] at h0
  obtain ⟨w1, hw1⟩ : ∃ w1, W.alloc (.cells #[.slice pa na ca] 70) = w1 := ⟨_, rfl⟩
  rw [hw1] at h0 hB
  obtain ⟨w2, hmk, r2, g2⟩ := make_pairs na hla w1
  have hB2 : Below W.heap.size W w2 := hB.trans ⟨g2.os, g2.tape, g2.output, g2.size, fun k hk => g2.block k (by have := hB.size; omega) (by simp)⟩
  have hz1 : S < w1.heap.size := lt_of_heap h0
  have h2 : w2.heap[S]? = some (.cells #[.slice pa na ca] 70) := (g2.block S hz1 (by simp)).trans h0
  have HW := Lib.hid (And.intro hva (And.intro hna (And.intro hS (And.intro hw1 (And.intro hB2 (And.intro ha (And.intro r2 hz1)))))))
  have c1 := nd_cell h0 0
  have c2 := nd_cell h2 0
  obtain ⟨mb, hmb⟩ : ∃ mb, w1.heap.size = mb := ⟨_, rfl⟩
  rw [hmb] at hmk
  have HM := Lib.hid hmb
  clear hva hna hS hB hB2 ha r2 g2 h0 h2 hw1 hz1
  go_enter Tryz.func76, Tryz.ntmps76
  go_upto_region 1 with fail
  rw [HW.out.2.2.2.1, HW.out.2.2.1]
  go_upto_block 0 with fail
  go_wp2_with fail
  go_loopg [13] (na + 1) (fun gh jv w => ∃ (j : Nat) (X : List R2), jv = .int .i64 (j : Int) ∧ j ≤ na ∧ na + 1 ≤ j + gh ∧ X.length = na ∧ X.take j = la.take j ∧ HRow w mb 133 2 (.slice (some ⟨mb, 0, none⟩) na na) na (cells2 X) ∧ Below mb w2 w)
  case atStart => exact ⟨0, List.replicate na (0, 0), rfl, Nat.zero_le _, by omega, by simp, rfl, by have := HW.out.2.2.2.2.2.2.1; rw [HM.out] at this; exact this, Below.refl _ _⟩
  case round =>
    obtain ⟨j, X, rfl, hj, hg, hX, htk, hR, hB⟩ := hrel
    have hBW : Below W.heap.size W wr := HW.out.2.2.2.2.1.trans (hB.mono (by have h1 := HW.out.2.2.2.2.2.2.2; have h2 := HW.out.2.2.1; have h3 := HM.out; omega))
    have HR := Lib.hid (And.intro hX (And.intro htk (And.intro hR (And.intro hB hBW))))
    clear hX htk hB hBW
    by_cases hlt : j < na
    · have hja : j < la.length := by rw [HW.out.2.1]; exact hlt
      have hjX : j < X.length := by rw [HR.out.1]; exact hlt
      have hva := HW.out.1.later HR.out.2.2.2.2
      obtain ⟨g, rfl, hg', a0, a1, a2⟩ := hva.run hja
      clear hva
      generalize ((els (la.take j)).length : Int) = ra at a2
      obtain ⟨r, hr⟩ : ∃ r, la[j] = r := ⟨_, rfl⟩
      rw [hr] at a0 a1
      have HX : Hid ((X.set j r).take (j + 1) = la.take (j + 1)) := Lib.hid (by
        rw [List.take_succ_eq_append_getElem hja, List.take_succ_eq_append_getElem (by simpa using hjX), List.take_set, hr, List.set_eq_of_length_le (by simp; omega), HR.out.2.1, List.getElem_set_self])
      clear hr
      obtain ⟨f1, t1⟩ := r
      have hmw := (HRow.lt hR mb rfl).2
      obtain ⟨q0, q1⟩ := cells2_at X j X[j] (List.getElem?_eq_getElem hjX)
      have e0 := HRow.cell hR q0
      have e1 := HRow.cell hR q1
      have z0 := HRow.frozenAt hR (j * 2)
      have z1 := HRow.frozenAt hR (j * 2 + 1)
      have HP := Lib.hid (Rp.put (l := X) (by rw [HR.out.1]; exact hR) j (f1, t1))
      clear q0 q1 hR
      go_wp2_with fail
      go_roundg (na - j)
      case measure => omega
      case rel =>
        obtain ⟨h1, h2⟩ := HP.out
        rw [HR.out.1] at h1
        have hb : Below mb wr ((wr.setCell ⟨mb, j * 2, none⟩ (Value.int .i64 (f1))).setCell ⟨mb, j * 2 + 1, none⟩ (Value.int .i64 (t1))) := ((Below.refl mb wr).setCell (Nat.le_refl _) _).setCell (Nat.le_refl _) _
        exact ⟨j + 1, X.set j (f1, t1), by go_num, by omega, by omega, by simp [HR.out.1], HX.out, HRow.later h1 (below_alloc _ _), (HR.out.2.2.2.1.trans hb).alloc (by simp; omega) _⟩
    · have e : X = la := by
        have h := HR.out.2.1
        rw [List.take_of_length_le (by rw [HR.out.1]; omega), List.take_of_length_le (by rw [HW.out.2.1]; omega)] at h
        exact h
      have hE : RunsAre la W (.returned (.slice (some ⟨mb, 0, none⟩) na na)) wr := ⟨_, rfl, by
        have h := HRow.mono hR (Nat.zero_le mb)
        rw [e] at h
        rw [← HW.out.2.1] at h ⊢
        exact h, HR.out.2.2.2.2⟩
      have HE := Lib.hid hE
      clear e hE hR
      go_wp2_with fail
      go_ret
      exact HE.out
end Go.Proofs.YtffpmmphpdkkbaaGreat
