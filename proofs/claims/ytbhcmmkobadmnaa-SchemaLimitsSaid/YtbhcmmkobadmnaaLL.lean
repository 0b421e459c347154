/- SchemaLimits: its walk. -/
import Derived.Test.YtbhcmmkobadmnaaLS
import Derived.Laws.IdiomStrings
namespace Go.Proofs.Ytbhcmmkobadmnaa
open Go Go.RowKit Go.Proofs

theorem conv1 {w : World} {g : Nat} {c : Int} {u : UInt8} (h : w.heap[g]? = some (.cells #[.int .u8 c] 5)) (hc : (u.toNat : Int) = c) : (convert 51 9 (.slice (some ⟨g, 0, none⟩) 1 1)).run Try.prog w = .ok (.string ⟨#[u]⟩) w := by
  subst hc
  exact run_convert_bytes_back (P := Try.prog) w 51 9 5 ⟨g, 0, none⟩ 1 [u] Try.underlying51 Try.underlying5 Try.underlying9 (fun j hj => by
    obtain rfl : j = 0 := by simp at hj; omega
    exact nd_cell h 0)
theorem conv2 {w : World} {g : Nat} {a c : Int} {v u : UInt8} (h : w.heap[g]? = some (.cells #[.int .u8 a, .int .u8 c] 5)) (ha : (v.toNat : Int) = a) (hc : (u.toNat : Int) = c) : (convert 51 9 (.slice (some ⟨g, 0, none⟩) 2 2)).run Try.prog w = .ok (.string ⟨#[v, u]⟩) w := by
  subst hc ha
  exact run_convert_bytes_back (P := Try.prog) w 51 9 5 ⟨g, 0, none⟩ 2 [v, u] Try.underlying51 Try.underlying5 Try.underlying9 (fun j hj => by
    rcases j with _ | _ | j
    · exact nd_cell h 0
    · exact nd_cell h 1
    · simp at hj; omega)
/-- The last table, as far as it is made. -/
structure LE (TB : Nat) (wa : World) (cv dv : Value) (k m : Nat) (ps : List Value) (w : World) : Prop where
  box : w.heap[TB]? = some (boxT bLast cv e0 dv)
  c : HRow w (TB + 1) 43 4 cv k (cellsC ((List.range k).map cL))
  d : DepsI w (TB + 1) dv ((List.range m).map (fun _ => dL)) ps
  below : Below TB wa w
section
variable {TB k m : Nat} {wa w w' : World} {cv dv : Value} {ps : List Value}
theorem LE.sz (h : LE TB wa cv dv k m ps w) : TB + 1 ≤ w.heap.size := lt_of_heap h.box
theorem LE.on (h : LE TB wa cv dv k m ps w) (hb : Below w.heap.size w w') : LE TB wa cv dv k m ps w' := ⟨heap_on hb h.box, h.c.later hb, h.d.later hb, h.below.trans (hb.mono (by have := h.sz; omega))⟩
/-- A column more in the row, and the row laid into the table. -/
theorem LE.col (h : LE TB wa cv dv k m ps w) {cv' : Value} (hr : HRow w' (TB + 1) 43 4 cv' (k + 1) (cellsC ((List.range k).map cL) ++ [.string (nmC k), .int .i64 2, .bool false, .string e0])) (hg : w.grownBy w' cv.ownBlock) : LE TB wa cv' dv (k + 1) m ps (w'.setCell ⟨TB, 1, none⟩ cv') := by
  have hb := below_row (n := TB + 1) h.c hg (Nat.le_refl _) h.sz
  have hbox := (hb.block TB (by omega)).trans h.box
  have ho : ∀ q : Nat, q ≠ TB → (w'.setCell ⟨TB, 1, none⟩ cv').heap[q]? = w'.heap[q]? := fun q hq => heap_setCell_other w' ⟨TB, 1, none⟩ q _ hq
  refine ⟨heap_setCell_same w' TB 1 _ _ _ hbox, ?_, ?_, (h.below.trans (hb.mono (by omega))).setCell (p := ⟨TB, 1, none⟩) (Nat.le_refl _) _⟩
  · rw [List.range_succ, List.map_append, cellsC_append]
    exact hr.of (fun q hq => ho q (by have := (hr.lt q hq).1; omega))
  · refine ⟨h.d.n, (h.d.d.beside h.c (by decide) hg).of (fun q hq => ho q (by have := (h.d.d.lt q hq).1; omega)), fun j a b => ((h.d.l j a b).beside h.c (by decide) hg).of (fun q hq => ho q (by have := ((h.d.l j a b).lt q hq).1; omega))⟩
/-- A dep more, and the row laid into the table. -/
theorem LE.dep (h : LE TB wa cv dv k m ps w) {dv' lv : Value} (hl : HRow w (TB + 1) 9 1 lv 1 [.string ⟨#[99, 48]⟩]) (hr : HRow w' (TB + 1) 53 2 dv' (m + 1) (cellsD ps ((List.range m).map (fun _ => dL)) ++ [lv, .string ⟨#[99, 49]⟩])) (hg : w.grownBy w' dv.ownBlock) : LE TB wa cv dv' k (m + 1) (ps ++ [lv]) (w'.setCell ⟨TB, 3, none⟩ dv') := by
  have hb := below_row (n := TB + 1) h.d.d hg (Nat.le_refl _) h.sz
  have hbox := (hb.block TB (by omega)).trans h.box
  have ho : ∀ q : Nat, q ≠ TB → (w'.setCell ⟨TB, 3, none⟩ dv').heap[q]? = w'.heap[q]? := fun q hq => heap_setCell_other w' ⟨TB, 3, none⟩ q _ hq
  have hlen : ((List.range m).map (fun _ => dL)).length = m := by simp
  have hd := h.d.snoc (d := dL) hl (by rw [hlen]; exact hr) hg
  have e : (List.range (m + 1)).map (fun _ => dL) = (List.range m).map (fun _ => dL) ++ [dL] := by rw [List.range_succ, List.map_append]; rfl
  refine ⟨heap_setCell_same w' TB 3 _ _ _ hbox, ?_, ?_, (h.below.trans (hb.mono (by omega))).setCell (p := ⟨TB, 3, none⟩) (Nat.le_refl _) _⟩
  · exact (h.c.beside h.d.d (by decide) hg).of (fun q hq => ho q (by have := (h.c.lt q hq).1; omega))
  · rw [e]
    exact ⟨hd.n, hd.d.of (fun q hq => ho q (by have := (hd.d.lt q hq).1; omega)), fun j a b => (hd.l j a b).of (fun q hq => ho q (by have := ((hd.l j a b).lt q hq).1; omega))⟩
theorem LE.rd (h : LE TB wa cv dv k m ps w) : RdT w cv dv (tE k m) := by
  refine ⟨?_, ps, h.d.n, HRow.rd h.d.d (by decide) (by decide), fun j a b => HRow.rd (h.d.l j a b) (by decide) (by decide)⟩
  show Rd w cv ((List.range k).map cL).length 4 _
  rw [List.length_map, List.length_range]
  exact HRow.rd h.c (by decide) (by decide)
theorem LE.dslice (h : LE TB wa cv dv k m ps w) : ∃ p cq, dv = .slice p m cq := by
  obtain ⟨p, cq, e, _, _⟩ := h.d.d.isslice
  refine ⟨p, cq, ?_⟩
  rw [e]; congr 1; simp
end
abbrev objX : Obj := .cells #[.string bX, .int .i64 1, .bool false, .string e0] 43
theorem tL_rd {w : World} {g i : Nat} (h : w.heap[g]? = some objX) : RdT w (.slice (some ⟨g, 0, none⟩) 1 1) (.slice none 0 0) (tL i) := ⟨RdC.lit (l := (tL i).cols) h (show 1 ≤ maxLen by decide), RdD.none w⟩

/-- A column that lies in a new block. -/
def newCol (B : Nat) (sx : ByteArray) : Par.VW := Par.VW.objN B (fun g => .slice (some ⟨g, 0, none⟩) 1 1) (.cells #[.string sx, .int .i64 2, .bool false, .string e0] 43)
/-- append of a column that lies in memory. -/
theorem app_col {y : World} {base n g : Nat} {v : Value} {xs : List Value} {sx : ByteArray} (hr : HRow y base 43 4 v n xs) (hn : n ≤ 1000) (hb : base ≤ y.heap.size) (hC : y.heap[g]? = some (.cells #[.string sx, .int .i64 2, .bool false, .string e0] 43)) :
    ∃ g' cap w', (Builtin.append_ #[31, 31] 31 #[v, .slice (some ⟨g, 0, none⟩) 1 1]).run Try.prog y = .ok (.slice (some ⟨g', 0, none⟩) (n + 1) cap) w' ∧
      HRow w' base 43 4 (.slice (some ⟨g', 0, none⟩) (n + 1) cap) (n + 1) (xs ++ [.string sx, .int .i64 2, .bool false, .string e0]) ∧ y.grownBy w' v.ownBlock ∧ (v.ownBlock = some g' ∨ y.heap.size ≤ g') := by
  obtain ⟨i0, hi0, hz0, hz1, hz2⟩ := info_parts info43
  exact run_append_has (P := Try.prog) y base 31 31 43 i0 _ 4 48 Try.underlying31 hi0 hz0 hz1 hz2 rfl (by decide) hr ⟨g, 0, none⟩ 1 1 [.string sx, .int .i64 2, .bool false, .string e0] rfl (fun j u hj => by
    rw [Addr.add_lit, Nat.zero_add, nd_cell hC]
    rw [List.getElem?_toArray]; exact hj) (by
    intro u hu
    simp only [List.mem_cons, List.not_mem_nil, or_false] at hu
    rcases hu with rfl | rfl | rfl | rfl <;> rfl) (by decide) (by unfold maxLen; omega) (by omega) hb
set_option maxRecDepth 100000 in
set_option maxHeartbeats 8000000 in
theorem limits_walk (a c d : Int) (W : World) : Calls Try.prog 6 #[.int .i64 a, .int .i64 c, .int .i64 d] W fun e w' => e = .returned (.bool true) ∧ Below W.heap.size W w' := by
  by_cases k1 : a < 0
  · go_enter Try.func6, Try.ntmps6
    go_wp2_with (go_at_call 8; (with_reducible refine (begun_any _).mono ?_); rintro e w0 ⟨rfl, hb⟩)
    go_ret
    exact ⟨rfl, hb⟩
  by_cases k2 : 10 < a
  · go_enter Try.func6, Try.ntmps6
    go_wp2_with (go_at_call 8; (with_reducible refine (begun_any _).mono ?_); rintro e w0 ⟨rfl, hb⟩)
    go_ret
    exact ⟨rfl, hb⟩
  by_cases k3 : c < 0
  · go_enter Try.func6, Try.ntmps6
    go_wp2_with (go_at_call 8; (with_reducible refine (begun_any _).mono ?_); rintro e w0 ⟨rfl, hb⟩)
    go_ret
    exact ⟨rfl, hb⟩
  by_cases k4 : 8 < c
  · go_enter Try.func6, Try.ntmps6
    go_wp2_with (go_at_call 8; (with_reducible refine (begun_any _).mono ?_); rintro e w0 ⟨rfl, hb⟩)
    go_ret
    exact ⟨rfl, hb⟩
  by_cases k5 : d < 0
  · go_enter Try.func6, Try.ntmps6
    go_wp2_with (go_at_call 8; (with_reducible refine (begun_any _).mono ?_); rintro e w0 ⟨rfl, hb⟩)
    go_ret
    exact ⟨rfl, hb⟩
  by_cases k6 : 5 < d
  · go_enter Try.func6, Try.ntmps6
    go_wp2_with (go_at_call 8; (with_reducible refine (begun_any _).mono ?_); rintro e w0 ⟨rfl, hb⟩)
    go_ret
    exact ⟨rfl, hb⟩
  obtain ⟨na, rfl⟩ := Int.eq_ofNat_of_zero_le (show 0 ≤ a by omega)
  obtain ⟨nc, rfl⟩ := Int.eq_ofNat_of_zero_le (show 0 ≤ c by omega)
  obtain ⟨nd, rfl⟩ := Int.eq_ofNat_of_zero_le (show 0 ≤ d by omega)
  have ra : na < 11 := by omega
  have rc : nc < 9 := by omega
  have rd : nd < 6 := by omega
  go_enter Try.func6, Try.ntmps6
  go_wp2_with fail
  refine (begun_any _).mono ?_
  rintro e w0 ⟨rfl, hb0⟩
  have H0 := Lib.hid hb0
  clear hb0
  go_wp2_with fail
  refine (new_any _).mono ?_
  rintro e w1 ⟨rfl, hs, hb⟩
  have D0 := Lib.hid (LSt.start (St.new H0.out hs hb))
  clear hs hb
  obtain ⟨S, hS⟩ : ∃ S, w0.heap.size = S := ⟨_, rfl⟩
  rw [hS] at D0 ⊢
  clear hS k1 k2 k3 k4 k5 k6
  go_upto_block 0 with fail
  go_cut [9] from 300 to 300 (fun rv wx => ∃ (p : Option Addr) (n cp : Nat) (xs : List Value), rv = .slice p n cp ∧ LSt S W (tabs na) (tabs na) (.slice p n cp) xs wx)
  case first =>
    go_wp2_with fail
    go_loopg [9, 10] (na + 1) (fun gh rv iv w => ∃ (i : Nat) (p : Option Addr) (n cp : Nat) (xs : List Value), iv = .int .i64 (i : Int) ∧ i ≤ na ∧ na + 1 ≤ i + gh ∧ rv = .slice p n cp ∧ n = min i 8 ∧ LSt S W (tabs i) (tabs i) (.slice p n cp) xs w)
    case atStart => exact ⟨0, none, 0, 0, [], rfl, by omega, by omega, rfl, rfl, D0.out⟩
    case round =>
      obtain ⟨i, p, n, cp, xs, rfl, hi, hg, rfl, hnm, hK⟩ := hrel
      have HNM := Lib.hid hnm
      clear hnm
      have HK := Lib.hid hK
      clear hK
      by_cases hlt : i < na
      · obtain ⟨hu, _⟩ := u8_of i (by omega)
        have HU := Lib.hid hu
        have wu : IntKind.u8.wrap (97 + (i : Int)) = 97 + (i : Int) := by rw [IntKind.wrap_u8]; omega
        have wi : IntKind.i64.wrap (97 + (i : Int)) = 97 + (i : Int) := by rw [IntKind.wrap_i64]; omega
        clear hu
        obtain ⟨sx, hsx⟩ : ∃ s, nmL i = s := ⟨_, rfl⟩
        have HSX := Lib.hid hsx
        clear hsx
        go_upto_region 11 with fail
        refine Par.wp_region_par2 8 (fun w => Below wr.heap.size wr w) (Par.VL [(.eq (.int .i64 i)), (.eq (.int .i64 (97 + i))), (.eq (.int .u8 (97 + i))), (.obj (fun g => .slice (some ⟨g, 0, none⟩) 1 1) (.cells #[.int .u8 (97 + i)] 5)), (.eq (.string sx)), (.eq (.agg #[.string bX, .int .i64 1, .bool false, .string e0])), (.obj (fun g => .agg #[.string sx, .slice (some ⟨g, 0, none⟩) 1 1, .string e0, .slice none 0 0]) objX), (.objN wr.heap.size (fun g => (Value.pointer (some ⟨g, 0, none⟩))) (boxT e0 (.slice none 0 0) e0 (.slice none 0 0)))]) ?A1 ?hm1 ?hB1 (fun w w' h hb => below_on h hb) (Par.VL.mono _) ?hA1 ((below_drew wr)) ?hop1 ?hT1
        case hm1 => kernel_rfl
        case hB1 => kernel_rfl
        case hA1 =>
          intro vs
          simp only [Par.putA, Par.dstAt, Act.put, List.getElem?_toArray, List.getElem?_cons_zero, List.getElem?_cons_succ, Option.bind_some, List.setIfInBounds_toArray, List.set_cons_zero, List.set_cons_succ]
          rfl
        case hop1 =>
          simp only [List.take_succ_cons, List.take_zero, Par.GiveAllV, and_true]
          refine ⟨fun vs w hK hd => ?_, fun vs w hK hd => ?_, fun vs w hK hd => ?_, fun vs w hK hd => ?_, fun vs w hK hd => ?_, fun vs w hK hd => ?_, fun vs w hK hd => ?_, fun vs w hK hd => ?_⟩
          · clear hd
            simp only [Par.GivesV]
            go_simp
            all_goals exact ⟨rfl, Below.refl _ _⟩
          · have d0 := hd 0 (by decide) (by kernel_rfl)
            replace d0 : vs 0 = (.int .i64 i) := d0
            clear hd
            simp only [Par.GivesV, d0]
            go_simp
            all_goals exact ⟨rfl, Below.refl _ _⟩
          · have d1 := hd 1 (by decide) (by kernel_rfl)
            replace d1 : vs 1 = (.int .i64 (97 + i)) := d1
            clear hd
            simp only [Par.GivesV, d1]
            go_simp
            all_goals exact ⟨rfl, Below.refl _ _⟩
          · have d2 := hd 2 (by decide) (by kernel_rfl)
            replace d2 : vs 2 = (.int .u8 (97 + i)) := d2
            clear hd
            simp only [Par.GivesV, d2]
            go_simp
            exact ⟨⟨_, rfl, heap_alloc_new w _⟩, below_alloc w _⟩
          · have d3 := hd 3 (by decide) (by kernel_rfl)
            obtain ⟨g3, d3, k3⟩ := d3
            have cv : (convert 51 9 (.slice (some ⟨g3, 0, none⟩) 1 1)).run Try.prog w = .ok (.string sx) w := by rw [← HSX.out]; exact conv1 k3 HU.out
            clear hd
            simp only [Par.GivesV]
            go_simp
            all_goals exact ⟨rfl, Below.refl _ _⟩
          · clear hd
            simp only [Par.GivesV]
            go_simp
            exact (lcol_any bX e0 1 w).mono (fun e w'' h => ⟨_, h.1, ⟨rfl, h.2⟩⟩)
          · have d4 := hd 4 (by decide) (by kernel_rfl)
            replace d4 : vs 4 = (.string sx) := d4
            have d5 := hd 5 (by decide) (by kernel_rfl)
            replace d5 : vs 5 = (.agg #[.string bX, .int .i64 1, .bool false, .string e0]) := d5
            clear hd
            simp only [Par.GivesV, d4, d5]
            go_simp
            exact (lone_any sx e0 ⟨bX, 1, false, e0⟩ w).mono (fun e w'' h => by obtain ⟨g, he, hg, hb⟩ := h; exact ⟨_, he, ⟨⟨g, rfl, hg⟩, hb⟩⟩)
          · clear hd
            simp only [Par.GivesV]
            go_simp
            exact ⟨⟨_, hK.size, rfl, heap_alloc_new w _⟩, below_alloc w _⟩
        case hT1 =>
          intro vs w' hK hV
          simp only [List.drop_succ_cons, List.drop_zero]
          have d0 := hV 0 (by decide)
          replace d0 : vs 0 = (.int .i64 i) := d0
          have d1 := hV 1 (by decide)
          replace d1 : vs 1 = (.int .i64 (97 + i)) := d1
          have d2 := hV 2 (by decide)
          replace d2 : vs 2 = (.int .u8 (97 + i)) := d2
          have d3 := hV 3 (by decide)
          have d4 := hV 4 (by decide)
          replace d4 : vs 4 = (.string sx) := d4
          have d5 := hV 5 (by decide)
          replace d5 : vs 5 = (.agg #[.string bX, .int .i64 1, .bool false, .string e0]) := d5
          have d6 := hV 6 (by decide)
          have d7 := hV 7 (by decide)
          clear hV
          simp only [d0, d1, d2, d4, d5]
          clear d0 d1 d2 d4 d5
          obtain ⟨g1, d6, h1⟩ := d6
          obtain ⟨TB, hTW, d7, hTB⟩ := d7
          rw [d6, d7]
          clear d6 d7 d3 wu wi
          have z0 := nd_cell hTB 0
          have z1 := nd_cell hTB 1
          have z2 := nd_cell hTB 2
          have z3 := nd_cell hTB 3
          have zf := fun i => frozen_of_row w' TB i _ _ hTB
          have zl := lt_of_heap hTB
          have hbox := set4 hTB (.string sx) (.slice (some ⟨g1, 0, none⟩) 1 1) (.string e0) (.slice none 0 0)
          have hbel := below_set4 hK hTW (.string sx) (.slice (some ⟨g1, 0, none⟩) 1 1) (.string e0) (.slice none 0 0)
          have hg1 := (set4_other w' TB g1 (fun eq => by rw [eq, hTB] at h1; cases h1) (.string sx) (.slice (some ⟨g1, 0, none⟩) 1 1) (.string e0) (.slice none 0 0)).trans h1
          have HT := Lib.hid (And.intro hbox (And.intro hg1 hbel))
          have HTW := Lib.hid hTW
          clear hTB h1 hK hTW hbox hbel hg1
          go_upto_region 12 with fail
          have HT := Lib.hid HT.out
          clear z0 z1 z2 z3 zf zl
          obtain ⟨w2, hw2⟩ : ∃ w2, (((w'.setCell ⟨TB, 0, none⟩ (.string sx)).setCell ⟨TB, 1, none⟩ (.slice (some ⟨g1, 0, none⟩) 1 1)).setCell ⟨TB, 2, none⟩ (.string e0)).setCell ⟨TB, 3, none⟩ (.slice none 0 0) = w2 := ⟨_, rfl⟩
          rw [hw2] at HT ⊢
          clear hw2
          have K2 := Lib.hid (HK.out.on HT.out.2.2)
          have z0 := nd_cell HT.out.1 0
          have z1 := nd_cell HT.out.1 1
          have z2 := nd_cell HT.out.1 2
          have z3 := nd_cell HT.out.1 3
          have zl := lt_of_heap HT.out.1
          have hadd := add_is (t := tL i) (nm := sx) (key := e0) HSX.out rfl (tL_rd HT.out.2.1) K2.out.st.sch (sm_L i) (may_L i (by omega)) (add_L i (by omega))
          have hTS : TB ≠ S := fun eq => by
            have h1 := HTW.out
            have h2 := lt_of_heap HK.out.st.sch.2.choose_spec.choose_spec.1
            omega
          have HTS := Lib.hid hTS
          clear hTS
          by_cases h8 : i < 8
          · rw [if_pos h8] at hadd
            have d8 : decide ((i : Int) < 8) = true := decide_eq_true (by omega)
            go_wp2_with (first | (at_builtin; refine wpList_append_run rfl (.tmp 63) (.tmp 65) 28 rfl rfl rfl hrun ?_) | (go_at_call 13; (with_reducible refine hadd.mono ?_); rintro e w3 ⟨rfl, hs3, hc3⟩; have hbx := (hc3.block TB (lt_of_heap HT.out.1) HTS.out).trans HT.out.1; have y0 := nd_cell hbx 0; have y1 := nd_cell hbx 1; have y2 := nd_cell hbx 2; have y3 := nd_cell hbx 3; have yl := lt_of_heap hbx; have K3 := Lib.hid (And.intro (K2.out.add hs3 hc3) ((tL_rd (i := i) HT.out.2.1).kp (Kp.chg K2.out.st.sch hc3))); have happ := K3.out.1.app (t := tL i) (nm := sx) (key := e0) (ty := 28) HSX.out rfl K3.out.2 (by rw [tabs_len]; omega) Try.underlying28; rw [tabs_len, ← HNM.out] at happ; obtain ⟨g5, cp5, w5, hrun, hK5⟩ := happ; have K5 := Lib.hid hK5; clear hs3 hc3 hbx hK5 hadd))
            go_roundg (na - i)
            case measure => omega
            case rel => exact ⟨i + 1, _, n + 1, _, _, by go_num, by omega, by omega, rfl, by rw [HNM.out]; omega, by have := K5.out; rw [← tabs_lt i h8] at this; exact this⟩
          · rw [if_neg h8] at hadd
            have d8 : decide ((i : Int) < 8) = false := decide_eq_false (by omega)
            go_wp2_with (go_at_call 13; (with_reducible refine hadd.mono ?_); rintro e w3 ⟨rfl, hs3, hc3⟩; have K3 := Lib.hid (K2.out.add hs3 hc3); clear hs3 hc3 hadd)
            go_roundg (na - i)
            case measure => omega
            case rel => exact ⟨i + 1, p, n, cp, xs, by go_num, by omega, by omega, rfl, by rw [HNM.out]; omega, by have := K3.out; rw [← tabs_ge i h8] at this; rw [tabs_ge i h8] at this ⊢; exact this⟩
      · obtain rfl : i = na := by omega
        go_wp2_with fail
        go_meet
        exact ⟨p, n, cp, xs, rfl, HK.out⟩
  case rest =>
    obtain ⟨wa, rfl⟩ : ∃ wa, wa = wc := ⟨_, rfl⟩
    obtain ⟨p, n, cp, xs, rfl, hK⟩ := hcut
    have HK := Lib.hid hK
    clear hK D0
    go_upto_region 17 with fail
    have hTB := heap_alloc_new wa (boxT bLast (.slice none 0 0) e0 (.slice none 0 0))
    have hbe := below_alloc wa (boxT bLast (.slice none 0 0) e0 (.slice none 0 0))
    obtain ⟨TB, hT⟩ : ∃ TB, wa.heap.size = TB := ⟨_, rfl⟩
    rw [hT] at hTB hbe
    have HE := Lib.hid (show LE TB wa (.slice none 0 0) (.slice none 0 0) 0 0 [] _ from ⟨hTB, HRow.nil, DepsI.nil _ _, hbe⟩)
    rw [hT]
    obtain ⟨we, hwe⟩ : ∃ we, wa.alloc (boxT bLast (.slice none 0 0) e0 (.slice none 0 0)) = we := ⟨_, rfl⟩
    rw [hwe] at HE ⊢
    have HT := Lib.hid hT
    clear hTB hbe hT hwe
    go_upto_block 2 with fail
    go_cut [] from 300 to 300 (fun wx => ∃ (p : Option Addr) (cq : Nat), LE TB wa (.slice p nc cq) (.slice none 0 0) nc 0 [] wx)
    case first =>
      go_wp2_with fail
      go_loopg [13] (nc + 1) (fun gh iv w => ∃ (i : Nat) (p : Option Addr) (cq : Nat), iv = .int .i64 (i : Int) ∧ i ≤ nc ∧ nc + 1 ≤ i + gh ∧ LE TB wa (.slice p i cq) (.slice none 0 0) i 0 [] w)
      case atStart => exact ⟨0, none, 0, rfl, by omega, by omega, HE.out⟩
      case round =>
        obtain ⟨i, p2, cq, rfl, hi, hg, hK⟩ := hrel
        have HK2 := Lib.hid hK
        clear hK
        by_cases hlt : i < nc
        · obtain ⟨_, hu⟩ := u8_of i (by omega)
          have HU := Lib.hid hu
          have wu : IntKind.u8.wrap (48 + (i : Int)) = 48 + (i : Int) := by rw [IntKind.wrap_u8]; omega
          have wi : IntKind.i64.wrap (48 + (i : Int)) = 48 + (i : Int) := by rw [IntKind.wrap_i64]; omega
          clear hu
          obtain ⟨sx, hsx⟩ : ∃ s, nmC i = s := ⟨_, rfl⟩
          have HSX := Lib.hid hsx
          clear hsx
          go_upto_region 20 with fail
          refine Par.wp_region_par2 9 (fun w => Below wr.heap.size wr w) (Par.VL [(.eq (Value.pointer (some ⟨TB, 1, none⟩))), (.eq (.slice p2 i cq)), (.eq (.int .i64 i)), (.eq (.int .i64 (48 + i))), (.eq (.int .u8 (48 + i))), (.obj (fun g => .slice (some ⟨g, 0, none⟩) 2 2) (.cells #[.int .u8 99, .int .u8 (48 + i)] 5)), (.eq (.string sx)), (.eq (.agg #[.string sx, .int .i64 2, .bool false, .string e0])), ((newCol wr.heap.size sx))]) ?A2 ?hm2 ?hB2 (fun w w' h hb => below_on h hb) (Par.VL.mono _) ?hA2 ((below_drew wr)) ?hop2 ?hT2
          case hm2 => kernel_rfl
          case hB2 => kernel_rfl
          case hA2 =>
            intro vs
            simp only [Par.putA, Par.dstAt, Act.put, List.getElem?_toArray, List.getElem?_cons_zero, List.getElem?_cons_succ, Option.bind_some, List.setIfInBounds_toArray, List.set_cons_zero, List.set_cons_succ]
            rfl
          case hop2 =>
            simp only [List.take_succ_cons, List.take_zero, Par.GiveAllV, and_true]
            refine ⟨fun vs w hK hd => ?_, fun vs w hK hd => ?_, fun vs w hK hd => ?_, fun vs w hK hd => ?_, fun vs w hK hd => ?_, fun vs w hK hd => ?_, fun vs w hK hd => ?_, fun vs w hK hd => ?_, fun vs w hK hd => ?_⟩
            · clear hd
              simp only [Par.GivesV]
              go_simp
              all_goals exact ⟨rfl, Below.refl _ _⟩
            · have d0 := hd 0 (by decide) (by kernel_rfl)
              replace d0 : vs 0 = (Value.pointer (some ⟨TB, 1, none⟩)) := d0
              have k := nd_cell (HK2.out.on hK).box 1
              clear hd
              simp only [Par.GivesV, d0]
              go_simp
              all_goals exact ⟨rfl, Below.refl _ _⟩
            · clear hd
              simp only [Par.GivesV]
              go_simp
              all_goals exact ⟨rfl, Below.refl _ _⟩
            · have d2 := hd 2 (by decide) (by kernel_rfl)
              replace d2 : vs 2 = (.int .i64 i) := d2
              clear hd
              simp only [Par.GivesV, d2]
              go_simp
              all_goals exact ⟨rfl, Below.refl _ _⟩
            · have d3 := hd 3 (by decide) (by kernel_rfl)
              replace d3 : vs 3 = (.int .i64 (48 + i)) := d3
              clear hd
              simp only [Par.GivesV, d3]
              go_simp
              all_goals exact ⟨rfl, Below.refl _ _⟩
            · have d4 := hd 4 (by decide) (by kernel_rfl)
              replace d4 : vs 4 = (.int .u8 (48 + i)) := d4
              clear hd
              simp only [Par.GivesV, d4]
              go_simp
              exact ⟨⟨_, rfl, heap_alloc_new w _⟩, below_alloc w _⟩
            · have d5 := hd 5 (by decide) (by kernel_rfl)
              obtain ⟨g5, d5, k5⟩ := d5
              have cv : (convert 51 9 (.slice (some ⟨g5, 0, none⟩) 2 2)).run Try.prog w = .ok (.string sx) w := by rw [← HSX.out]; exact conv2 k5 rfl HU.out
              clear hd
              simp only [Par.GivesV]
              go_simp
              all_goals exact ⟨rfl, Below.refl _ _⟩
            · have d6 := hd 6 (by decide) (by kernel_rfl)
              replace d6 : vs 6 = (.string sx) := d6
              clear hd
              simp only [Par.GivesV, d6]
              go_simp
              exact (lcol_any sx e0 2 w).mono (fun e w'' h => ⟨_, h.1, ⟨rfl, h.2⟩⟩)
            · have d7 := hd 7 (by decide) (by kernel_rfl)
              replace d7 : vs 7 = (.agg #[.string sx, .int .i64 2, .bool false, .string e0]) := d7
              skip
              clear hd
              simp only [Par.GivesV, d7]
              go_simp
              exact ⟨⟨_, hK.size, rfl, heap_alloc_new w _⟩, below_alloc w _⟩
          case hT2 =>
            intro vs w' hK hV
            simp only [List.drop_succ_cons, List.drop_zero]
            have d0 := hV 0 (by decide)
            replace d0 : vs 0 = (Value.pointer (some ⟨TB, 1, none⟩)) := d0
            have d1 := hV 1 (by decide)
            replace d1 : vs 1 = (.slice p2 i cq) := d1
            have d2 := hV 2 (by decide)
            replace d2 : vs 2 = (.int .i64 i) := d2
            have d3 := hV 3 (by decide)
            replace d3 : vs 3 = (.int .i64 (48 + i)) := d3
            have d4 := hV 4 (by decide)
            replace d4 : vs 4 = (.int .u8 (48 + i)) := d4
            have d5 := hV 5 (by decide)
            have d6 := hV 6 (by decide)
            replace d6 : vs 6 = (.string sx) := d6
            have d7 := hV 7 (by decide)
            replace d7 : vs 7 = (.agg #[.string sx, .int .i64 2, .bool false, .string e0]) := d7
            have d8 := hV 8 (by decide)
            clear hV
            simp only [d0, d1, d2, d3, d4, d6, d7]
            clear d0 d1 d2 d3 d4 d6 d7
            obtain ⟨g8, hg8, d8, hC⟩ := d8
            rw [d8]
            clear d8 d5 wu wi
            have KB := HK2.out.on hK
            obtain ⟨g, cap', w3, hrun, r3, g3, o3⟩ := app_col KB.c (by omega) KB.sz hC
            have hE := KB.col (by rw [HSX.out]; exact r3) g3
            have hbx := ((below_row (n := TB + 1) KB.c g3 (Nat.le_refl _) KB.sz).block TB (by omega)).trans KB.box
            have y1 := nd_cell hbx 1
            have yf := frozen_of_row w3 TB 1 _ _ hbx
            have yl := lt_of_heap hbx
            have HE2 := Lib.hid hE
            clear hE r3 g3 o3 KB hbx hC hg8
            go_wp2_with (at_builtin; refine wpList_append_run rfl (.tmp 74) (.tmp 81) 31 rfl rfl rfl hrun ?_)
            go_roundg (nc - i)
            case measure => omega
            case rel => exact ⟨i + 1, _, _, by go_num, by omega, by omega, HE2.out⟩
        · obtain rfl : i = nc := by omega
          go_wp2_with fail
          go_meet
          exact ⟨p2, cq, HK2.out⟩
    case rest =>
      obtain ⟨pC, cC, hE1⟩ := hcut
      have HE1 := Lib.hid hE1
      clear hE1 HE
      go_upto_block 4 with fail
      go_cut [] from 300 to 300 (fun wx => ∃ (pd : Option Addr) (cd : Nat) (ps : List Value), LE TB wa (.slice pC nc cC) (.slice pd nd cd) nc nd ps wx)
      case first =>
        go_wp2_with fail
        go_loopg [14] (nd + 1) (fun gh iv w => ∃ (i : Nat) (pd : Option Addr) (cd : Nat) (ps : List Value), iv = .int .i64 (i : Int) ∧ i ≤ nd ∧ nd + 1 ≤ i + gh ∧ LE TB wa (.slice pC nc cC) (.slice pd i cd) nc i ps w)
        case atStart => exact ⟨0, none, 0, [], rfl, by omega, by omega, HE1.out⟩
        case round =>
          obtain ⟨i, pd, cd, ps, rfl, hi, hg, hK⟩ := hrel
          by_cases hlt : i < nd
          · have z3 := nd_cell hK.box 3
            have zl := lt_of_heap hK.box
            have hb1 := below_alloc wr (.cells #[.string ⟨#[99, 48]⟩] 9)
            have hh1 := heap_alloc_new wr (.cells #[.string ⟨#[99, 48]⟩] 9)
            have K1 := hK.on hb1
            have hlr : HRow (wr.alloc (.cells #[.string ⟨#[99, 48]⟩] 9)) (TB + 1) 9 1 (.slice (some ⟨wr.heap.size, 0, none⟩) 1 1) 1 [.string ⟨#[99, 48]⟩] :=
              ⟨rfl, .inr ⟨wr.heap.size, 1, _, rfl, hK.sz, hh1, Nat.le_refl _, (by unfold maxLen; omega), (by decide), rfl⟩⟩
            have hdl : ((List.range i).map (fun _ => dL)).length = i := by simp
            have hrow := K1.d.d
            rw [hdl] at hrow
            obtain ⟨g, cap', w3, hrun, r3, g3, o3⟩ := app_one (ty := 32) Try.underlying32 info53 (by kernel_rfl) (by decide) (by decide) (wr.alloc (.cells #[.string ⟨#[99, 48]⟩] 9)) (TB + 1) hrow (by omega) K1.sz #[.slice (some ⟨wr.heap.size, 0, none⟩) 1 1, .string ⟨#[99, 49]⟩] rfl (by
              intro u hu
              simp only [List.mem_cons, List.not_mem_nil, or_false] at hu
              rcases hu with rfl | rfl <;> rfl)
            have hE := K1.dep hlr r3 g3
            have hbx := ((below_row (n := TB + 1) hrow g3 (Nat.le_refl _) K1.sz).block TB (by omega)).trans K1.box
            have y3 := nd_cell hbx 3
            have yf := frozen_of_row w3 TB 3 _ _ hbx
            have yl := lt_of_heap hbx
            have HE2 := Lib.hid hE
            rw [World.size_alloc] at hrun
            clear hE r3 g3 o3 hbx hrow hdl hlr K1 hb1 hh1 hK
            go_wp2_with (at_builtin; refine wpList_append_run rfl (.tmp 90) (.tmp 93) 32 rfl rfl rfl hrun ?_)
            go_roundg (nd - i)
            case measure => omega
            case rel => exact ⟨i + 1, _, _, _, by go_num, by omega, by omega, HE2.out⟩
          · obtain rfl : i = nd := by omega
            go_wp2_with fail
            go_meet
            exact ⟨pd, cd, ps, hK⟩
      case rest =>
        obtain ⟨pd, cd, ps, hE⟩ := hcut
        have HE := Lib.hid hE
        have KL := Lib.hid (HK.out.on (HT.out ▸ hE.below))
        have z0 := nd_cell hE.box 0
        have z1 := nd_cell hE.box 1
        have z2 := nd_cell hE.box 2
        have z3 := nd_cell hE.box 3
        have zl := lt_of_heap hE.box
        have hrm := rmay_any hE.rd KL.out.rd (inv_L na (by omega)) (sm_E nc nd)
        obtain ⟨r, hr⟩ : ∃ r, mayP (tabs na) (tE nc nd) = r := ⟨_, rfl⟩
        have hme := may_E na ra nc rc nd rd
        rw [hr] at hme hrm
        have hrm : Calls Try.prog 12 #[.slice p n cp, .agg #[.string bLast, .slice pC nc cC, .string e0, .slice pd nd cd]] wc _ := hrm
        have hadd := fun (w : World) (hK : LE TB wa (.slice pC nc cC) (.slice pd nd cd) nc nd ps w) (hL : LSt S W (tabs na) (tabs na) (.slice p n cp) xs w) => add_is (t := tE nc nd) (nm := bLast) (key := e0) rfl rfl hK.rd hL.st.sch (sm_E nc nd) hr rfl
        have HADD := Lib.hid hadd
        have HME := Lib.hid hme
        clear hE hadd hme hr HE1
        go_upto_region 26 with (go_at_call 12; (with_reducible refine hrm.mono ?_); rintro e w5 ⟨rfl, hb5⟩; have hE5 := HE.out.on hb5; have hL5 := KL.out.on hb5; have hadd := HADD.out _ hE5 hL5; have y0 := nd_cell hE5.box 0; have y1 := nd_cell hE5.box 1; have y2 := nd_cell hE5.box 2; have y3 := nd_cell hE5.box 3; have yl := lt_of_heap hE5.box; have H5 := Lib.hid hL5; clear hE5 hL5 hb5 hrm)
        clear z0 z1 z2 z3 zl
        by_cases a8 : na < 8
        rotate_left
        · have e_a8 : decide ((na : Int) < 8) = false := decide_eq_false (by omega)
          have hr0 : (r == 0) = false := by
            rw [Bool.eq_iff_iff, beq_iff_eq, ← decide_eq_true_iff (p := r = 0), HME.out]
            simp [a8]
          clear a8
          go_wp2_with (go_at_call 13; (with_reducible refine hadd.mono ?_); rintro e w6 ⟨rfl, hs6, hc6⟩)
          go_ret
          exact ⟨rfl, (H5.out.add hs6 hc6).st.below⟩
        have e_a8 : decide ((na : Int) < 8) = true := decide_eq_true (by omega)
        by_cases c1 : 1 ≤ nc
        rotate_left
        · have e_c1 : decide (1 ≤ (nc : Int)) = false := decide_eq_false (by omega)
          have hr0 : (r == 0) = false := by
            rw [Bool.eq_iff_iff, beq_iff_eq, ← decide_eq_true_iff (p := r = 0), HME.out]
            simp [a8, c1]
          clear a8 c1
          go_wp2_with (go_at_call 13; (with_reducible refine hadd.mono ?_); rintro e w6 ⟨rfl, hs6, hc6⟩)
          go_ret
          exact ⟨rfl, (H5.out.add hs6 hc6).st.below⟩
        have e_c1 : decide (1 ≤ (nc : Int)) = true := decide_eq_true (by omega)
        by_cases c6 : nc ≤ 6
        rotate_left
        · have e_c6 : decide ((nc : Int) ≤ 6) = false := decide_eq_false (by omega)
          have hr0 : (r == 0) = false := by
            rw [Bool.eq_iff_iff, beq_iff_eq, ← decide_eq_true_iff (p := r = 0), HME.out]
            simp [a8, c1, c6]
          clear a8 c1 c6
          go_wp2_with (go_at_call 13; (with_reducible refine hadd.mono ?_); rintro e w6 ⟨rfl, hs6, hc6⟩)
          go_ret
          exact ⟨rfl, (H5.out.add hs6 hc6).st.below⟩
        have e_c6 : decide ((nc : Int) ≤ 6) = true := decide_eq_true (by omega)
        by_cases d3 : nd ≤ 3
        rotate_left
        · have e_d3 : decide ((nd : Int) ≤ 3) = false := decide_eq_false (by omega)
          have hr0 : (r == 0) = false := by
            rw [Bool.eq_iff_iff, beq_iff_eq, ← decide_eq_true_iff (p := r = 0), HME.out]
            simp [a8, c1, c6, d3]
          clear a8 c1 c6 d3
          go_wp2_with (go_at_call 13; (with_reducible refine hadd.mono ?_); rintro e w6 ⟨rfl, hs6, hc6⟩)
          go_ret
          exact ⟨rfl, (H5.out.add hs6 hc6).st.below⟩
        have e_d3 : decide ((nd : Int) ≤ 3) = true := decide_eq_true (by omega)
        by_cases d0 : nd = 0
        · have e_d0 : ((nd : Int) == 0) = true := by simp; omega
          have hr0 : (r == 0) = true := by
            rw [Bool.eq_iff_iff, beq_iff_eq, ← decide_eq_true_iff (p := r = 0), HME.out]
            simp [a8, c1, c6, d0]
          clear a8 c1 c6 d3 d0
          go_wp2_with (go_at_call 13; (with_reducible refine hadd.mono ?_); rintro e w6 ⟨rfl, hs6, hc6⟩)
          go_ret
          exact ⟨rfl, (H5.out.add hs6 hc6).st.below⟩
        have e_d0 : ((nd : Int) == 0) = false := by simp; omega
        by_cases c2 : 2 ≤ nc
        · have e_c2 : decide (2 ≤ (nc : Int)) = true := decide_eq_true (by omega)
          have hr0 : (r == 0) = true := by
            rw [Bool.eq_iff_iff, beq_iff_eq, ← decide_eq_true_iff (p := r = 0), HME.out]
            simp [a8, c1, c6, d3, d0, c2]
          clear a8 c1 c6 d3 d0 c2
          go_wp2_with (go_at_call 13; (with_reducible refine hadd.mono ?_); rintro e w6 ⟨rfl, hs6, hc6⟩)
          go_ret
          exact ⟨rfl, (H5.out.add hs6 hc6).st.below⟩
        · have e_c2 : decide (2 ≤ (nc : Int)) = false := decide_eq_false (by omega)
          have hr0 : (r == 0) = false := by
            rw [Bool.eq_iff_iff, beq_iff_eq, ← decide_eq_true_iff (p := r = 0), HME.out]
            simp [a8, c1, c6, d3, d0, c2]
          clear a8 c1 c6 d3 d0 c2
          go_wp2_with (go_at_call 13; (with_reducible refine hadd.mono ?_); rintro e w6 ⟨rfl, hs6, hc6⟩)
          go_ret
          exact ⟨rfl, (H5.out.add hs6 hc6).st.below⟩
end Go.Proofs.Ytbhcmmkobadmnaa
