/- PathDeep: its walk. -/
import Derived.Test.YtcgceigcegddlaaDA
namespace Go.Proofs.Ytcgceigcegddlaa
open Go Go.RowKit Go.Proofs

abbrev oId : Obj := .cells #[.string sId, .int .i64 1, .bool false, .string e0] 33
theorem tabD0_rd {w : World} {g : Nat} (h : w.heap[g]? = some oId) : RdT w (.slice (some ⟨g, 0, none⟩) 1 1) (.slice none 0 0) (tabD 0) := ⟨RdC.lit (l := (tabD 0).cols) h (show 1 ≤ maxLen by decide), RdD.none w⟩
/-- A column that lies in a new block. -/
def upV (B : Nat) (sx : ByteArray) : Par.VW := Par.VW.objN B (fun g => .slice (some ⟨g, 0, none⟩) 1 1) (.cells #[.string sUp, .int .i64 1, .bool false, .string sx] 33)
theorem app_up {y : World} {base n g : Nat} {v : Value} {xs : List Value} {sx : ByteArray} (hr : HRow y base 33 4 v n xs) (hn : n ≤ 1000) (hb : base ≤ y.heap.size) (hC : y.heap[g]? = some (.cells #[.string sUp, .int .i64 1, .bool false, .string sx] 33)) :
    ∃ g' cap w', (Builtin.append_ #[50, 50] 50 #[v, .slice (some ⟨g, 0, none⟩) 1 1]).run Try.prog y = .ok (.slice (some ⟨g', 0, none⟩) (n + 1) cap) w' ∧
      HRow w' base 33 4 (.slice (some ⟨g', 0, none⟩) (n + 1) cap) (n + 1) (xs ++ [.string sUp, .int .i64 1, .bool false, .string sx]) ∧ y.grownBy w' v.ownBlock ∧ (v.ownBlock = some g' ∨ y.heap.size ≤ g') := by
  obtain ⟨i0, hi0, hz0, hz1, hz2⟩ := info_parts info43
  exact run_append_has (P := Try.prog) y base 50 50 33 i0 _ 4 48 Try.underlying50 hi0 hz0 hz1 hz2 rfl (by decide) hr ⟨g, 0, none⟩ 1 1 [.string sUp, .int .i64 1, .bool false, .string sx] rfl (fun j u hj => by
    rw [Addr.add_lit, Nat.zero_add, nd_cell hC]
    rw [List.getElem?_toArray]; exact hj) (by
    intro u hu
    simp only [List.mem_cons, List.not_mem_nil, or_false] at hu
    rcases hu with rfl | rfl | rfl | rfl <;> rfl) (by decide) (by unfold maxLen; omega) (by omega) hb
/-- A slice of so many. -/
def lenV (M : Nat) : Par.VW := ⟨fun v _ => ∃ p c, v = .slice p M c, fun _ _ _ h _ => h⟩
set_option maxRecDepth 100000 in
set_option maxHeartbeats 8000000 in
theorem pathDeep_walk (a b : Int) (W : World) : Calls Try.prog 6 #[.int .i64 a, .int .i64 b] W fun e w' => e = .returned (.bool true) ∧ Below W.heap.size W w' := by
  by_cases k1 : a < 1
  · go_enter Try.func6, Try.ntmps6
    go_wp2_with (go_at_call 8; (with_reducible refine (pbegun_any _).mono ?_); rintro e w0 ⟨rfl, hb⟩)
    go_ret
    exact ⟨rfl, hb⟩
  by_cases k2 : 7 < a
  · go_enter Try.func6, Try.ntmps6
    go_wp2_with (go_at_call 8; (with_reducible refine (pbegun_any _).mono ?_); rintro e w0 ⟨rfl, hb⟩)
    go_ret
    exact ⟨rfl, hb⟩
  by_cases k3 : b < 1
  · go_enter Try.func6, Try.ntmps6
    go_wp2_with (go_at_call 8; (with_reducible refine (pbegun_any _).mono ?_); rintro e w0 ⟨rfl, hb⟩)
    go_ret
    exact ⟨rfl, hb⟩
  by_cases k4 : 8 < b
  · go_enter Try.func6, Try.ntmps6
    go_wp2_with (go_at_call 8; (with_reducible refine (pbegun_any _).mono ?_); rintro e w0 ⟨rfl, hb⟩)
    go_ret
    exact ⟨rfl, hb⟩
  obtain ⟨n, rfl⟩ := Int.eq_ofNat_of_zero_le (show 0 ≤ a by omega)
  obtain ⟨k, rfl⟩ := Int.eq_ofNat_of_zero_le (show 0 ≤ b by omega)
  have rn : n < 8 := by omega
  have rn0 : 0 < n := by omega
  have rk : k < 9 := by omega
  have rk0 : 0 < k := by omega
  have d1 : decide ((n : Int) < 1) = false := decide_eq_false (by omega)
  have d2 : decide ((7 : Int) < (n : Int)) = false := decide_eq_false (by omega)
  have d3 : decide ((k : Int) < 1) = false := decide_eq_false (by omega)
  have d4 : decide ((8 : Int) < (k : Int)) = false := decide_eq_false (by omega)
  clear k1 k2 k3 k4
  go_enter Try.func6, Try.ntmps6
  go_upto_region 6 with (go_at_call 8; (with_reducible refine (pbegun_any _).mono ?_); rintro e w0 ⟨rfl, hb0⟩; have H0 := Lib.hid hb0; clear hb0)
  clear d1 d2 d3 d4
  go_upto_block 0 with fail
  obtain ⟨S, hS⟩ : ∃ S, w0.heap.size = S := ⟨_, rfl⟩
  have HS := Lib.hid hS
  go_cut [6] from 300 to 300 (fun lv wx => ∃ (p : Option Addr) (c : Nat) (xs : List Value), lv = .slice p n c ∧ TR S (tabsD n) (.slice p n c) xs wx ∧ Below S w0 wx)
  case first =>
    go_wp2_with fail
    go_loopg [6, 7] (n + 1) (fun gh lv iv w => ∃ (i : Nat) (p : Option Addr) (c : Nat) (xs : List Value), iv = .int .i64 (i : Int) ∧ i ≤ n ∧ n + 1 ≤ i + gh ∧ lv = .slice p i c ∧ TR S (tabsD i) (.slice p i c) xs w ∧ Below S w0 w)
    case atStart => exact ⟨0, none, 0, [], rfl, Nat.zero_le _, by omega, rfl, TR.nil (Nat.le_of_eq hS.symm), hS ▸ Below.refl _ _⟩
    case round =>
      obtain ⟨i, p, c, xs, rfl, hi, hg, rfl, hT, hB⟩ := hrel
      obtain ⟨w1, rfl⟩ : ∃ w1, w1 = wr := ⟨_, rfl⟩
      have HT := Lib.hid (And.intro hT hB)
      clear hT hB
      by_cases hlt : i < n
      · have hu := u8_D i (by omega)
        have wu : IntKind.u8.wrap (97 + (i : Int)) = 97 + (i : Int) := by rw [IntKind.wrap_u8]; omega
        have wi : IntKind.i64.wrap (97 + (i : Int)) = 97 + (i : Int) := by rw [IntKind.wrap_i64]; omega
        obtain ⟨sx, hsx⟩ : ∃ s, nmL i = s := ⟨_, rfl⟩
        have cv : (convert 49 9 (.slice (some ⟨w1.heap.size, 0, none⟩) 1 1)).run Try.prog (w1.alloc (.cells #[.int .u8 (97 + (i : Int))] 5)) = .ok (.string sx) (w1.alloc (.cells #[.int .u8 (97 + (i : Int))] 5)) := by rw [← hsx]; exact conv1 (heap_alloc_new w1 _) hu
        have HSX := Lib.hid hsx
        clear hsx hu
        go_upto_region 11 with fail
        have hw4 : ∃ w4, (((w1.alloc (.cells #[.int .u8 (97 + (i : Int))] 5)).alloc oId).alloc (boxT sx (.slice (some ⟨w1.heap.size + 1, 0, none⟩) 1 1) sId (.slice none 0 0))) = w4 := ⟨_, rfl⟩
        obtain ⟨w4, hw4⟩ := hw4
        have q1 := below_alloc w1 (.cells #[.int .u8 (97 + (i : Int))] 5)
        have q2 := below_alloc (w1.alloc (.cells #[.int .u8 (97 + (i : Int))] 5)) oId
        have q3 := below_alloc ((w1.alloc (.cells #[.int .u8 (97 + (i : Int))] 5)).alloc oId) (boxT sx (.slice (some ⟨w1.heap.size + 1, 0, none⟩) 1 1) sId (.slice none 0 0))
        have e2 := heap_alloc_new (w1.alloc (.cells #[.int .u8 (97 + (i : Int))] 5)) oId
        have e3 := heap_alloc_new ((w1.alloc (.cells #[.int .u8 (97 + (i : Int))] 5)).alloc oId) (boxT sx (.slice (some ⟨w1.heap.size + 1, 0, none⟩) 1 1) sId (.slice none 0 0))
        have e2' := heap_on q3 e2
        have qb := below_on (below_on q1 q2) q3
        rw [World.size_alloc] at e2'
        rw [World.size_alloc, World.size_alloc] at e3
        rw [hw4] at e2' e3 qb
        obtain ⟨G0, hG0⟩ : ∃ x, w1.heap.size = x := ⟨_, rfl⟩
        rw [hw4]
        have K4 := Lib.hid (And.intro (HT.out.1.on qb) (And.intro (HT.out.2.trans (qb.mono HT.out.1.sz)) (And.intro e2' e3)))
        have hSG : S ≤ G0 := hG0 ▸ HT.out.1.sz
        have HQB := Lib.hid qb
        rw [hG0] at K4 HQB ⊢
        have hz4 : G0 + 2 ≤ w4.heap.size := by have := lt_of_heap K4.out.2.2.2; omega
        have HZ4 := Lib.hid (And.intro hz4 hSG)
        have HG0 := Lib.hid hG0
        clear q1 q2 q3 e2 e3 e2' qb hG0 hw4 cv wu wi hz4 hSG
        by_cases h0 : i = 0
        · have hd0 : decide ((0 : Int) < (i : Int)) = false := decide_eq_false (by omega)
          have hd1 : decide (0 < i) = false := decide_eq_false (by omega)
          have hrd : RdT w4 (.slice (some ⟨G0 + 1, 0, none⟩) 1 1) (.slice none 0 0) (tabD i) := by rw [h0]; exact tabD0_rd K4.out.2.2.1
          obtain ⟨g, cap', w5, hrun, hT5, hb5⟩ := K4.out.1.app (ty := 22) (nm := sx) (key := sId) (show (tabD i).nm = sx from HSX.out) rfl hrd (by rw [tabsD_len]; omega) Try.underlying22
          rw [tabsD_len, ← tabsD_succ] at hT5
          rw [tabsD_len] at hrun
          have H5 := Lib.hid (And.intro hT5 (K4.out.2.1.trans hb5))
          have z0 := nd_cell K4.out.2.2.2 0
          have z1 := nd_cell K4.out.2.2.2 1
          have z2 := nd_cell K4.out.2.2.2 2
          have z3 := nd_cell K4.out.2.2.2 3
          have zl := lt_of_heap K4.out.2.2.2
          have HI0 := Lib.hid h0
          clear hT5 hb5 hrd h0
          go_wp2_with (at_builtin; refine wpList_append_run rfl (.tmp 60) (.tmp 62) 22 rfl rfl rfl hrun ?_)
          go_roundg (n - i)
          case measure => omega
          case rel => exact ⟨i + 1, _, _, _, by go_num, by omega, by omega, rfl, H5.out.1, H5.out.2⟩
        · have hd0 : decide ((0 : Int) < (i : Int)) = true := decide_eq_true (by omega)
          have hd1 : decide (0 < i) = true := decide_eq_true (by omega)
          obtain ⟨i', hi'⟩ : ∃ i', i = i' + 1 := ⟨i - 1, by omega⟩
          have hil : i' < (tabsD i).length := by rw [tabsD_len]; omega
          obtain ⟨bl, ol, cv, dv, hpl, hbl, c0, -, -, -, -⟩ := RdTs.tab (rd_row (K4.out.1.row) K4.out.1.tabs) hil
          subst hpl
          have hnm : (tabsD i)[i'].nm = nmL i' := by rw [tabsD_at]; rfl
          rw [hnm] at c0
          obtain ⟨ux, hux⟩ : ∃ s, nmL i' = s := ⟨_, rfl⟩
          rw [hux] at c0
          have HC : Hid (∀ w, Below w4.heap.size w4 w → w.cell? ⟨bl, ol + i' * 4, none⟩ = some (.string ux) ∧ w.cell? ⟨G0 + 1 + 1, 1, none⟩ = some (.slice (some ⟨G0 + 1, 0, none⟩) 1 1)) := Lib.hid (fun w hb => ⟨bel_cell hb c0, bel_cell hb (nd_cell K4.out.2.2.2 1)⟩)
          have hrow4 : HRow w4 (G0 + 1) 33 4 (.slice (some ⟨G0 + 1, 0, none⟩) 1 1) 1 (cellsC [cIdD]) := ⟨rfl, .inr ⟨G0 + 1, 1, _, rfl, Nat.le_refl _, K4.out.2.2.1, Nat.le_refl _, by decide, by decide, rfl⟩⟩
          have HR4 := Lib.hid hrow4
          have HUX := Lib.hid (And.intro hux hi')
          have hwa : IntKind.i64.wrap (i' : Int) = (i' : Int) := by rw [IntKind.wrap_i64]; omega
          have hii : (i' : Int) < (i : Int) := by omega
          have z1 := nd_cell K4.out.2.2.2 1
          have zl := lt_of_heap K4.out.2.2.2
          have hi2 : (i : Int) - 1 = (i' : Int) := by omega
          clear hbl c0 hux hnm hrow4 hil hi'
          go_upto_region 12 with fail
          refine Par.wp_region_par2 10 (fun w => Below w4.heap.size w4 w) (Par.VL [(.eq (Value.pointer (some ⟨G0 + 1 + 1, 1, none⟩))), (.eq (.slice (some ⟨G0 + 1, 0, none⟩) 1 1)), (.eq (.slice (some ⟨bl, ol, none⟩) i c)), (.eq (.int .i64 i)), (.eq (.int .i64 i')), (.eq (Value.pointer (some ⟨bl, ol + i' * 4, none⟩))), (.eq (Value.pointer (some ⟨bl, ol + i' * 4, none⟩))), (.eq (.string ux)), (.eq (.agg #[.string sUp, .int .i64 1, .bool false, .string ux])), ((upV w4.heap.size ux))]) ?A1 ?hm1 ?hB1 (fun w w' h hb => below_on h hb) (Par.VL.mono _) ?hA1 ((below_drew w4)) ?hop1 ?hT1
          case hm1 => kernel_rfl
          case hB1 => kernel_rfl
          case hA1 =>
            intro vs
            simp only [Par.putA, Par.dstAt, Act.put, List.getElem?_toArray, List.getElem?_cons_zero, List.getElem?_cons_succ, Option.bind_some, List.setIfInBounds_toArray, List.set_cons_zero, List.set_cons_succ]
            rfl
          case hop1 =>
            simp only [List.take_succ_cons, List.take_zero, Par.GiveAllV, and_true]
            refine ⟨fun vs w hK hd => ?_, fun vs w hK hd => ?_, fun vs w hK hd => ?_, fun vs w hK hd => ?_, fun vs w hK hd => ?_, fun vs w hK hd => ?_, fun vs w hK hd => ?_, fun vs w hK hd => ?_, fun vs w hK hd => ?_, fun vs w hK hd => ?_⟩
            · clear hd
              simp only [Par.GivesV]
              go_simp
              all_goals exact ⟨rfl, Below.refl _ _⟩
            · have d0 := hd 0 (by decide) (by kernel_rfl)
              replace d0 : vs 0 = (Value.pointer (some ⟨G0 + 1 + 1, 1, none⟩)) := d0
              have k := (HC.out w hK).2
              clear hd
              simp only [Par.GivesV, d0]
              go_simp
              all_goals exact ⟨rfl, Below.refl _ _⟩
            · clear hd
              simp only [Par.GivesV]
              go_simp
              all_goals exact ⟨rfl, Below.refl _ _⟩
            · clear hd
              simp only [Par.GivesV]
              go_simp
              all_goals exact ⟨rfl, Below.refl _ _⟩
            · have d3 := hd 3 (by decide) (by kernel_rfl)
              replace d3 : vs 3 = (.int .i64 i) := d3
              clear hd
              simp only [Par.GivesV, d3]
              go_simp
              all_goals exact ⟨rfl, Below.refl _ _⟩
            · have d2 := hd 2 (by decide) (by kernel_rfl)
              replace d2 : vs 2 = (.slice (some ⟨bl, ol, none⟩) i c) := d2
              have d4 := hd 4 (by decide) (by kernel_rfl)
              replace d4 : vs 4 = (.int .i64 i') := d4
              clear hd
              simp only [Par.GivesV, d2, d4]
              go_simp
              all_goals exact ⟨rfl, Below.refl _ _⟩
            · have d5 := hd 5 (by decide) (by kernel_rfl)
              replace d5 : vs 5 = (Value.pointer (some ⟨bl, ol + i' * 4, none⟩)) := d5
              clear hd
              simp only [Par.GivesV, d5]
              go_simp
              all_goals exact ⟨rfl, Below.refl _ _⟩
            · have d6 := hd 6 (by decide) (by kernel_rfl)
              replace d6 : vs 6 = (Value.pointer (some ⟨bl, ol + i' * 4, none⟩)) := d6
              have k := (HC.out w hK).1
              clear hd
              simp only [Par.GivesV, d6]
              go_simp
              all_goals exact ⟨rfl, Below.refl _ _⟩
            · have d7 := hd 7 (by decide) (by kernel_rfl)
              replace d7 : vs 7 = (.string ux) := d7
              clear hd
              simp only [Par.GivesV, d7]
              go_simp
              all_goals exact ⟨rfl, Below.refl _ _⟩
            · have d8 := hd 8 (by decide) (by kernel_rfl)
              replace d8 : vs 8 = (.agg #[.string sUp, .int .i64 1, .bool false, .string ux]) := d8
              skip
              clear hd
              simp only [Par.GivesV, d8]
              go_simp
              exact ⟨⟨_, hK.size, rfl, heap_alloc_new w _⟩, below_alloc w _⟩
          case hT1 =>
            intro vs w' hK hV
            simp only [List.drop_succ_cons, List.drop_zero]
            have d0 := hV 0 (by decide)
            replace d0 : vs 0 = (Value.pointer (some ⟨G0 + 1 + 1, 1, none⟩)) := d0
            have d1 := hV 1 (by decide)
            replace d1 : vs 1 = (.slice (some ⟨G0 + 1, 0, none⟩) 1 1) := d1
            have d2 := hV 2 (by decide)
            replace d2 : vs 2 = (.slice (some ⟨bl, ol, none⟩) i c) := d2
            have d3 := hV 3 (by decide)
            replace d3 : vs 3 = (.int .i64 i) := d3
            have d4 := hV 4 (by decide)
            replace d4 : vs 4 = (.int .i64 i') := d4
            have d5 := hV 5 (by decide)
            replace d5 : vs 5 = (Value.pointer (some ⟨bl, ol + i' * 4, none⟩)) := d5
            have d6 := hV 6 (by decide)
            replace d6 : vs 6 = (Value.pointer (some ⟨bl, ol + i' * 4, none⟩)) := d6
            have d7 := hV 7 (by decide)
            replace d7 : vs 7 = (.string ux) := d7
            have d8 := hV 8 (by decide)
            replace d8 : vs 8 = (.agg #[.string sUp, .int .i64 1, .bool false, .string ux]) := d8
            have d9 := hV 9 (by decide)
            clear hV
            simp only [d0, d1, d2, d3, d4, d5, d6, d7, d8]
            clear d0 d1 d2 d3 d4 d5 d6 d7 d8
            obtain ⟨g8, hg8, d9, hC⟩ := d9
            rw [d9]
            clear d9
            obtain ⟨w5, rfl⟩ : ∃ w5, w5 = w' := ⟨_, rfl⟩
            obtain ⟨g, cap', w6, hrun, r6, g6, o6⟩ := app_up (HR4.out.later hK) (by omega) (by have := HZ4.out.1; have := hK.size; omega) hC
            have b45 : Below G0 w4 w5 := hK.mono (by have := HZ4.out.1; omega)
            have b56 : Below G0 w5 w6 := grown_below g6 (fun q hq => by have h : G0 + 1 = q := (by simpa [Value.ownBlock] using hq); omega) (by have := HZ4.out.1; have := hK.size; omega)
            have hbx5 := heap_on hK K4.out.2.2.2
            have hbx6 := (g6.block (G0 + 1 + 1) (lt_of_heap hbx5) (by simp [Value.ownBlock])).trans hbx5
            have hsame := heap_setCell_same w6 (G0 + 1 + 1) 1 _ _ (.slice (some ⟨g, 0, none⟩) 2 cap') hbx6
            have hbx7 : (w6.setCell ⟨G0 + 1 + 1, 1, none⟩ (.slice (some ⟨g, 0, none⟩) 2 cap')).heap[G0 + 1 + 1]? = some (boxT sx (.slice (some ⟨g, 0, none⟩) 2 cap') sId (.slice none 0 0)) := hsame
            have b67 : Below G0 w6 (w6.setCell ⟨G0 + 1 + 1, 1, none⟩ (.slice (some ⟨g, 0, none⟩) 2 cap')) := (Below.refl G0 w6).setCell (p := ⟨G0 + 1 + 1, 1, none⟩) (by show G0 ≤ G0 + 1 + 1; omega) _
            have hne : g ≠ G0 + 1 + 1 := by
              rcases o6 with h | h
              · have h : G0 + 1 = g := by simpa [Value.ownBlock] using h
                omega
              · have := HZ4.out.1; have := hK.size; have := lt_of_heap hbx5; omega
            have r7 : HRow (w6.setCell ⟨G0 + 1 + 1, 1, none⟩ (.slice (some ⟨g, 0, none⟩) 2 cap')) (G0 + 1) 33 4 (.slice (some ⟨g, 0, none⟩) 2 cap') 2 (cellsC [cIdD] ++ [.string sUp, .int .i64 1, .bool false, .string ux]) := r6.of (fun q hq => heap_setCell_other w6 ⟨G0 + 1 + 1, 1, none⟩ q _ (by have h : g = q := (by simpa [Value.ownBlock] using hq); show q ≠ G0 + 1 + 1; omega))
            have hcl : cellsC [cIdD] ++ [.string sUp, .int .i64 1, .bool false, .string ux] = cellsC (tabD i).cols := by
              rw [HUX.out.2, ← HUX.out.1]; rfl
            have hcn : (tabD i).cols.length = 2 := by rw [HUX.out.2]; rfl
            have y1 := nd_cell hbx6 1
            have yf := frozen_of_row w6 (G0 + 1 + 1) 1 _ _ hbx6
            have yl := lt_of_heap hbx6
            have hrd : RdT (w6.setCell ⟨G0 + 1 + 1, 1, none⟩ (.slice (some ⟨g, 0, none⟩) 2 cap')) (.slice (some ⟨g, 0, none⟩) 2 cap') (.slice none 0 0) (tabD i) := by
              refine ⟨?_, RdD.none _⟩
              show Rd _ _ (tabD i).cols.length 4 _
              rw [hcn, ← hcl]
              exact HRow.rd r7 (by decide) (by decide)
            have b17 := ((HQB.out.trans b45).trans b56).trans b67
            have hT7 := HT.out.1.on (by rw [HG0.out]; exact b17)
            obtain ⟨w7, hw7⟩ : ∃ y, w6.setCell ⟨G0 + 1 + 1, 1, none⟩ (.slice (some ⟨g, 0, none⟩) 2 cap') = y := ⟨_, rfl⟩
            rw [hw7] at hbx7 hrd b17 hT7
            obtain ⟨g3, cap3, w8, hrun2, hT8, hb8⟩ := hT7.app (ty := 22) (nm := sx) (key := sId) (show (tabD i).nm = sx from HSX.out) rfl hrd (by rw [tabsD_len]; omega) Try.underlying22
            rw [tabsD_len, ← tabsD_succ] at hT8
            rw [tabsD_len] at hrun2
            have H8 := Lib.hid (And.intro hT8 ((HT.out.2.trans (b17.mono HZ4.out.2)).trans hb8))
            have HB7 := Lib.hid hbx7
            have HW7 := Lib.hid hw7
            clear hT8 hb8 hrd b17 hT7 b45 b56 b67 hbx5 hbx6 hsame r6 g6 o6 r7 hcl hcn hne hC hg8 hK hbx7 hw7 z1 zl hwa hii hi2
            go_upto_region 13 with (at_builtin; refine wpList_append_run rfl (.tmp 49) (.tmp 57) 50 rfl rfl rfl hrun ?_)
            rw [HW7.out]
            clear y1 yf yl
            have z0 := nd_cell HB7.out 0
            have z1 := nd_cell HB7.out 1
            have z2 := nd_cell HB7.out 2
            have z3 := nd_cell HB7.out 3
            have zl := lt_of_heap HB7.out
            go_wp2_with (at_builtin; refine wpList_append_run rfl (.tmp 60) (.tmp 62) 22 rfl rfl rfl hrun2 ?_)
            go_roundg (n - i)
            case measure => omega
            case rel => exact ⟨i + 1, _, _, _, by go_num, by omega, by omega, rfl, H8.out.1, H8.out.2⟩
      · obtain rfl : i = n := by omega
        go_wp2_with fail
        go_meet
        exact ⟨p, c, xs, rfl, HT.out.1, HT.out.2⟩
  case rest =>
    obtain ⟨w1, rfl⟩ : ∃ w1, w1 = wc := ⟨_, rfl⟩
    obtain ⟨pl, cl, xs, rfl, hT, hB⟩ := hcut
    have hrd := rd_row hT.row hT.tabs
    obtain ⟨n1, hn1⟩ : ∃ n1, n = n1 + 1 := ⟨n - 1, by omega⟩
    have hl1 : n1 < (tabsD n).length := by rw [tabsD_len]; omega
    obtain ⟨bl, ol, cv, dv, hpl, hbl, c0, -, -, -, -⟩ := RdTs.tab hrd hl1
    subst hpl
    have hnm1 : (tabsD n)[n1].nm = nmL n1 := by rw [tabsD_at]; rfl
    rw [hnm1] at c0
    have HNK : Hid (∀ j, j < n → w1.cell? ⟨bl, ol + j * 4, none⟩ = some (.string (nmL j))) := Lib.hid (fun j hj => by
      obtain ⟨b', o', _, _, e1, _, c1, _⟩ := RdTs.tab hrd (show j < (tabsD n).length by rw [tabsD_len]; exact hj)
      cases e1
      rw [tabsD_at] at c1
      exact c1)
    obtain ⟨t1, ht1⟩ : ∃ t, nmL n1 = t := ⟨_, rfl⟩
    rw [ht1] at c0
    have hboth := both_is hrd (sm_D n) (by rw [tabsD_len]; omega) (kept_D n (by omega))
    have HB1 := Lib.hid (And.intro hB (And.intro c0 (And.intro hbl (And.intro hn1 ht1))))
    clear hT hrd hl1 hnm1 hbl c0 hB hn1 ht1
    go_upto_region 15 with (go_at_call 10; (with_reducible refine hboth.mono ?_); rintro e w2 ⟨S2, pk, nk2, ck, rfl, hnk2, hK⟩; have K2 := Lib.hid hK; clear hnk2 hK hboth)
    go_wp2_with fail
    go_loopg [11, 12] (k + 1) (fun gh pv iv w => ∃ (m : Nat) (q : Option Addr) (c : Nat), iv = .int .i64 ((m : Int) + 1) ∧ m + 1 ≤ k ∧ k + 1 ≤ m + gh ∧ pv = .slice q m c ∧ HRow w w2.heap.size 9 1 (.slice q m c) m (cellsS (List.replicate m sUp)) ∧ Below w2.heap.size w2 w)
    case atStart => exact ⟨0, none, 0, rfl, by omega, by omega, rfl, HRow.nil, Below.refl _ _⟩
    case round =>
      obtain ⟨m, q, c, rfl, hm, hg, rfl, hR, hB⟩ := hrel
      obtain ⟨w3, rfl⟩ : ∃ w3, w3 = wr := ⟨_, rfl⟩
      have hrl : (List.replicate m sUp).length = m := List.length_replicate
      by_cases hlt : m + 1 < k
      · have hltz : (m : Int) + 1 < (k : Int) := by omega
        obtain ⟨g, c', w4, hrun, hr4, hb4⟩ := appw_lit (x := sUp) (ty := 24) (l := List.replicate m sUp) (m := m + 1) (by rw [hrl]; exact hR) (by rw [hrl]; omega) hB.size (by rw [hrl])
        rw [← List.replicate_succ'] at hr4
        have H4 := Lib.hid (And.intro hr4 (hB.trans hb4))
        clear hr4 hb4 hR hB hrl
        go_wp2_with (at_builtin; refine wpList_append_run rfl (.tmp 74) (.tmp 75) 24 rfl rfl rfl hrun ?_)
        go_roundg (k - m)
        case measure => omega
        case rel => exact ⟨m + 1, _, _, by go_num, by omega, by omega, rfl, H4.out.1, H4.out.2⟩
      · have hltz : ¬ (m : Int) + 1 < (k : Int) := by omega
        obtain ⟨g, c', w4, hrun, hr4, hb4⟩ := appw_lit (x := sId) (ty := 24) (l := List.replicate m sUp) (m := m + 1) (by rw [hrl]; exact hR) (by rw [hrl]; omega) hB.size (by rw [hrl])
        have hpk : List.replicate m sUp ++ [sId] = pathD k := by unfold pathD; rw [show k - 1 = m by omega]
        rw [hpk] at hr4
        have K4 := Lib.hid (And.intro (K2.out.on (hB.trans hb4)) hr4.wd)
        have hcell : ∀ j, j < n → ∀ w, Below w4.heap.size w4 w → w.cell? ⟨bl, ol + j * 4, none⟩ = some (.string (nmL j)) := fun j hj w hb => bel_cell (below_on K4.out.1.below hb) (HNK.out j hj)
        have HCL := Lib.hid hcell
        have hbl4 : bl < w4.heap.size := Nat.lt_of_lt_of_le HB1.out.2.2.1 K4.out.1.below.size
        have c4 : w4.cell? ⟨bl, ol + n1 * 4, none⟩ = some (.string t1) := bel_cell K4.out.1.below HB1.out.2.1
        obtain ⟨rr, hrr⟩ : ∃ r, pcolL (ksD n) t1 (pathD k) = r := ⟨_, rfl⟩
        obtain ⟨⟨nm, kd, mu, tg⟩, u, er⟩ := rr
        have hcall := pathCol_is K4.out.1.sch K4.out.2 hrr
        have HRR := Lib.hid hrr
        have hn1e := HB1.out.2.2.2.1
        have hwn : IntKind.i64.wrap (n1 : Int) = (n1 : Int) := by rw [IntKind.wrap_i64]; omega
        have hnn : (n : Int) - 1 = (n1 : Int) := by omega
        have hn1n : (n1 : Int) < (n : Int) := by omega
        have hkm : k = m + 1 := by omega
        have HKM := Lib.hid hkm
        clear hr4 hb4 hR hB hrl hpk hcell hrr hkm hn1e
        go_upto_region 21 with (at_builtin; refine wpList_append_run rfl (.tmp 77) (.tmp 78) 24 rfl rfl rfl hrun ?_)
        go_upto_region 22 with (go_at_call 12; (with_reducible refine hcall.mono ?_); rintro e w5 ⟨rfl, hb5⟩)
        have hbb := below_on hb5 (below_alloc w5 (.cells #[.string nm, .int .i64 kd, .bool mu, .string tg] 33))
        obtain ⟨B5, hB5⟩ : ∃ x, w5.heap.size = x := ⟨_, rfl⟩
        obtain ⟨w6, hw6⟩ : ∃ x, w5.alloc (.cells #[.string nm, .int .i64 kd, .bool mu, .string tg] 33) = x := ⟨_, rfl⟩
        rw [hw6] at hbb
        rw [hB5, hw6]
        have K6 := Lib.hid (And.intro (K4.out.1.on hbb) hbb)
        clear hcall hb5 hB5 hw6 hbb c4 hbl4 hrun
        have hfin : Below W.heap.size W w6 := (H0.out.trans ((HS.out ▸ HB1.out.1).mono H0.out.size)).trans (K6.out.1.below.mono (Nat.le_trans H0.out.size HB1.out.1.size))
        have HFIN := Lib.hid hfin
        clear hfin
        by_cases h4 : 4 < k
        · have h4z : (4 : Int) < (k : Int) := by omega
          obtain rfl : er = 5 := by have h := col_D1 n (by omega) k (by omega) h4; rw [show n - 1 = n1 by have := HB1.out.2.2.2.1; omega, HB1.out.2.2.2.2, HRR.out] at h; exact h
          go_wp2_with fail
          go_ret
          exact ⟨rfl, HFIN.out⟩
        · have h4z : ¬ (4 : Int) < (k : Int) := by omega
          by_cases hkn : n < k
          · have hknz : (n : Int) < (k : Int) := by omega
            obtain rfl : er = 3 := by have h := col_D2 n (by omega) k (by omega) (by omega) (by omega) hkn; rw [show n - 1 = n1 by have := HB1.out.2.2.2.1; omega, HB1.out.2.2.2.2, HRR.out] at h; exact h
            go_wp2_with fail
            go_ret
            exact ⟨rfl, HFIN.out⟩
          · have hknz : ¬ (n : Int) < (k : Int) := by omega
            have hn1e := HB1.out.2.2.2.1
            obtain rfl : er = 0 := by have h := col_D3a n (by omega) k (by omega) (by omega) (by omega) (by omega); rw [show n - 1 = n1 by omega, HB1.out.2.2.2.2, HRR.out] at h; exact h
            obtain ⟨nk, hnk⟩ : ∃ nk, n = nk + k := ⟨n - k, by omega⟩
            have hun : nmL nk = u := by
              have h := col_D3b n (by omega) k (by omega) (by omega) (by omega) (by omega)
              rw [show n - 1 = n1 by omega, HB1.out.2.2.2.2, HRR.out, show n - k = nk by omega] at h
              exact (eqS_iff.1 h).symm
            have hnkl : nk < n := by omega
            have HC : Hid (∀ w, Below w6.heap.size w6 w → w.cell? ⟨bl, ol + nk * 4, none⟩ = some (.string u) ∧ w.cell? ⟨bl, ol + n1 * 4, none⟩ = some (.string t1)) := Lib.hid (fun w hb => ⟨hun ▸ HCL.out nk hnkl w (below_on K6.out.2 hb), HB1.out.2.2.2.2 ▸ HCL.out n1 (by omega) w (below_on K6.out.2 hb)⟩)
            obtain ⟨mA, hmA⟩ : ∃ m, min n 4 = m := ⟨_, rfl⟩
            obtain ⟨mB, hmB⟩ : ∃ m, min n1 4 = m := ⟨_, rfl⟩
            obtain ⟨M, hM⟩ : ∃ m, mA + mB = m := ⟨_, rfl⟩
            have hlen : (waysP (ksD n) 4 t1 []).length = M := by
              have h := all_D n (by omega) (by omega)
              rw [show n - 1 = n1 by omega, HB1.out.2.2.2.2, hmA, hmB, hM] at h
              exact h
            have hfew : AllFew (ksD n) := kept_D n (by omega) ▸ (kept_inv (tabsD n) _).2
            have hnice : Nice (ksD n) := kept_D n (by omega) ▸ kept_nice (tabsD n) _
            have HALL : Hid (∀ w, Below w6.heap.size w6 w → Calls Try.prog 19 #[(Value.pointer (some ⟨S2, 0, none⟩)), .string t1] w fun e w' => ∃ p c, e = .returned (.slice p M c) ∧ Below w.heap.size w w') := Lib.hid (fun w hb => (pall_any hfew hnice (K6.out.1.on hb).sch).mono (fun _ _ ⟨p, m, c, _, qs, h1, h2, h3, _, h5⟩ => ⟨p, c, by rw [h1, h2, h3.2.length_eq, hlen], h5⟩))
            have HREF : Hid (∀ w, Below w6.heap.size w6 w → Calls Try.prog 20 #[.slice pk nk2 ck, .string t1] w fun e w' => ∃ p c, e = .returned (.slice p M c) ∧ Below w.heap.size w w') := Lib.hid (fun w hb => (rall_any (K6.out.1.on hb).rd hnice).mono (fun _ _ ⟨p, m, c, _, qs, h1, h2, h3, _, h5⟩ => ⟨p, c, by rw [h1, h2, h3.2.length_eq, hlen], h5⟩))
            have hwk : IntKind.i64.wrap ((n : Int) - (k : Int)) = (nk : Int) := by rw [IntKind.wrap_i64]; omega
            have hnk3 : (n : Int) - (k : Int) = (nk : Int) := by omega
            have hwk2 : IntKind.i64.wrap (nk : Int) = (nk : Int) := by rw [IntKind.wrap_i64]; omega
            have hwM : IntKind.i64.wrap (M : Int) = (M : Int) := by rw [IntKind.wrap_i64]; omega
            have hMz : (mA : Int) + (mB : Int) = (M : Int) := by omega
            have hmAz : min (n : Int) 4 = (mA : Int) := by omega
            have hmBz : min (n1 : Int) 4 = (mB : Int) := by omega
            have hnkz : (nk : Int) < (n : Int) := by omega
            have HN := Lib.hid (And.intro hnk (And.intro hmA (And.intro hmB hM)))
            clear hn1e hnk hun hmA hmB hM hlen hfew hnice hnkl
            go_upto_region 26 with fail
            refine Par.wp_region_par2 52 (fun w => Below w6.heap.size w6 w) (Par.VL [(.eq (.int .i64 0)), (.eq (.bool true)), (.eq (.bool true)), (.eq (.string u)), (.eq (.slice (some ⟨bl, ol, none⟩) n cl)), (.eq (.int .i64 n)), (.eq (.int .i64 k)), (.eq (.int .i64 nk)), (.eq (Value.pointer (some ⟨bl, ol + nk * 4, none⟩))), (.eq (Value.pointer (some ⟨bl, ol + nk * 4, none⟩))), (.eq (.string u)), (.eq (.bool true)), (.eq (.bool true)), (.eq (.bool true)), (.eq (Value.pointer (some ⟨S2, 0, none⟩))), (.eq (.slice (some ⟨bl, ol, none⟩) n cl)), (.eq (.int .i64 n)), (.eq (.int .i64 n1)), (.eq (Value.pointer (some ⟨bl, ol + n1 * 4, none⟩))), (.eq (Value.pointer (some ⟨bl, ol + n1 * 4, none⟩))), (.eq (.string t1)), ((lenV M)), (.eq (.int .i64 M)), (.eq (.slice pk nk2 ck)), (.eq (.slice (some ⟨bl, ol, none⟩) n cl)), (.eq (.int .i64 n)), (.eq (.int .i64 n1)), (.eq (Value.pointer (some ⟨bl, ol + n1 * 4, none⟩))), (.eq (Value.pointer (some ⟨bl, ol + n1 * 4, none⟩))), (.eq (.string t1)), ((lenV M)), (.eq (.int .i64 M)), (.eq (.bool true)), (.eq (.bool true)), (.eq (.bool true)), (.eq (Value.pointer (some ⟨S2, 0, none⟩))), (.eq (.slice (some ⟨bl, ol, none⟩) n cl)), (.eq (.int .i64 n)), (.eq (.int .i64 n1)), (.eq (Value.pointer (some ⟨bl, ol + n1 * 4, none⟩))), (.eq (Value.pointer (some ⟨bl, ol + n1 * 4, none⟩))), (.eq (.string t1)), ((lenV M)), (.eq (.int .i64 M)), (.eq (.int .i64 n)), (.eq (.int .i64 mA)), (.eq (.int .i64 n)), (.eq (.int .i64 n1)), (.eq (.int .i64 mB)), (.eq (.int .i64 M)), (.eq (.bool true)), (.eq (.bool true))]) ?A2 ?hm2 ?hB2 (fun w w' h hb => below_on h hb) (Par.VL.mono _) ?hA2 ((below_drew w6)) ?hop2 ?hT2
            case hm2 => kernel_rfl
            case hB2 => kernel_rfl
            case hA2 =>
              intro vs
              simp only [Par.putA, Par.dstAt, Act.put, List.getElem?_toArray, List.getElem?_cons_zero, List.getElem?_cons_succ, Option.bind_some, List.setIfInBounds_toArray, List.set_cons_zero, List.set_cons_succ]
              rfl
            case hop2 =>
              simp only [List.take_succ_cons, List.take_zero, Par.GiveAllV, and_true]
              refine ⟨fun vs w hK hd => ?_, fun vs w hK hd => ?_, fun vs w hK hd => ?_, fun vs w hK hd => ?_, fun vs w hK hd => ?_, fun vs w hK hd => ?_, fun vs w hK hd => ?_, fun vs w hK hd => ?_, fun vs w hK hd => ?_, fun vs w hK hd => ?_, fun vs w hK hd => ?_, fun vs w hK hd => ?_, fun vs w hK hd => ?_, fun vs w hK hd => ?_, fun vs w hK hd => ?_, fun vs w hK hd => ?_, fun vs w hK hd => ?_, fun vs w hK hd => ?_, fun vs w hK hd => ?_, fun vs w hK hd => ?_, fun vs w hK hd => ?_, fun vs w hK hd => ?_, fun vs w hK hd => ?_, fun vs w hK hd => ?_, fun vs w hK hd => ?_, fun vs w hK hd => ?_, fun vs w hK hd => ?_, fun vs w hK hd => ?_, fun vs w hK hd => ?_, fun vs w hK hd => ?_, fun vs w hK hd => ?_, fun vs w hK hd => ?_, fun vs w hK hd => ?_, fun vs w hK hd => ?_, fun vs w hK hd => ?_, fun vs w hK hd => ?_, fun vs w hK hd => ?_, fun vs w hK hd => ?_, fun vs w hK hd => ?_, fun vs w hK hd => ?_, fun vs w hK hd => ?_, fun vs w hK hd => ?_, fun vs w hK hd => ?_, fun vs w hK hd => ?_, fun vs w hK hd => ?_, fun vs w hK hd => ?_, fun vs w hK hd => ?_, fun vs w hK hd => ?_, fun vs w hK hd => ?_, fun vs w hK hd => ?_, fun vs w hK hd => ?_, fun vs w hK hd => ?_⟩
              · clear hd
                simp only [Par.GivesV]
                go_simp
                all_goals exact ⟨rfl, Below.refl _ _⟩
              · have d0 := hd 0 (by decide) (by kernel_rfl)
                replace d0 : vs 0 = (.int .i64 0) := d0
                clear hd
                simp only [Par.GivesV, d0]
                go_simp
                all_goals exact ⟨rfl, Below.refl _ _⟩
              · have d1 := hd 1 (by decide) (by kernel_rfl)
                replace d1 : vs 1 = (.bool true) := d1
                clear hd
                simp only [Par.GivesV, d1]
                go_simp
                all_goals exact ⟨rfl, Below.refl _ _⟩
              · have d2 := hd 2 (by decide) (by kernel_rfl)
                replace d2 : vs 2 = (.bool true) := d2
                clear hd
                simp only [Par.GivesV, d2]
                go_simp
                all_goals exact ⟨rfl, Below.refl _ _⟩
              · have d2 := hd 2 (by decide) (by kernel_rfl)
                replace d2 : vs 2 = (.bool true) := d2
                clear hd
                simp only [Par.GivesV, d2]
                go_simp
                all_goals exact ⟨rfl, Below.refl _ _⟩
              · have d2 := hd 2 (by decide) (by kernel_rfl)
                replace d2 : vs 2 = (.bool true) := d2
                clear hd
                simp only [Par.GivesV, d2]
                go_simp
                all_goals exact ⟨rfl, Below.refl _ _⟩
              · have d2 := hd 2 (by decide) (by kernel_rfl)
                replace d2 : vs 2 = (.bool true) := d2
                clear hd
                simp only [Par.GivesV, d2]
                go_simp
                all_goals exact ⟨rfl, Below.refl _ _⟩
              · have d2 := hd 2 (by decide) (by kernel_rfl)
                replace d2 : vs 2 = (.bool true) := d2
                have d5 := hd 5 (by decide) (by kernel_rfl)
                replace d5 : vs 5 = (.int .i64 n) := d5
                have d6 := hd 6 (by decide) (by kernel_rfl)
                replace d6 : vs 6 = (.int .i64 k) := d6
                clear hd
                simp only [Par.GivesV, d2, d5, d6]
                go_simp
                all_goals exact ⟨rfl, Below.refl _ _⟩
              · have d2 := hd 2 (by decide) (by kernel_rfl)
                replace d2 : vs 2 = (.bool true) := d2
                have d4 := hd 4 (by decide) (by kernel_rfl)
                replace d4 : vs 4 = (.slice (some ⟨bl, ol, none⟩) n cl) := d4
                have d7 := hd 7 (by decide) (by kernel_rfl)
                replace d7 : vs 7 = (.int .i64 nk) := d7
                clear hd
                simp only [Par.GivesV, d2, d4, d7]
                go_simp
                all_goals exact ⟨rfl, Below.refl _ _⟩
              · have d2 := hd 2 (by decide) (by kernel_rfl)
                replace d2 : vs 2 = (.bool true) := d2
                have d8 := hd 8 (by decide) (by kernel_rfl)
                replace d8 : vs 8 = (Value.pointer (some ⟨bl, ol + nk * 4, none⟩)) := d8
                clear hd
                simp only [Par.GivesV, d2, d8]
                go_simp
                all_goals exact ⟨rfl, Below.refl _ _⟩
              · have d2 := hd 2 (by decide) (by kernel_rfl)
                replace d2 : vs 2 = (.bool true) := d2
                have d9 := hd 9 (by decide) (by kernel_rfl)
                replace d9 : vs 9 = (Value.pointer (some ⟨bl, ol + nk * 4, none⟩)) := d9
                have k0 := (HC.out w hK).1
                clear hd
                simp only [Par.GivesV, d2, d9]
                go_simp
                all_goals exact ⟨rfl, Below.refl _ _⟩
              · have d2 := hd 2 (by decide) (by kernel_rfl)
                replace d2 : vs 2 = (.bool true) := d2
                have d3 := hd 3 (by decide) (by kernel_rfl)
                replace d3 : vs 3 = (.string u) := d3
                have d10 := hd 10 (by decide) (by kernel_rfl)
                replace d10 : vs 10 = (.string u) := d10
                clear hd
                simp only [Par.GivesV, d2, d3, d10]
                go_simp
                all_goals exact ⟨rfl, Below.refl _ _⟩
              · have d2 := hd 2 (by decide) (by kernel_rfl)
                replace d2 : vs 2 = (.bool true) := d2
                have d11 := hd 11 (by decide) (by kernel_rfl)
                replace d11 : vs 11 = (.bool true) := d11
                clear hd
                simp only [Par.GivesV, d2, d11]
                go_simp
                all_goals exact ⟨rfl, Below.refl _ _⟩
              · have d12 := hd 12 (by decide) (by kernel_rfl)
                replace d12 : vs 12 = (.bool true) := d12
                clear hd
                simp only [Par.GivesV, d12]
                go_simp
                all_goals exact ⟨rfl, Below.refl _ _⟩
              · have d13 := hd 13 (by decide) (by kernel_rfl)
                replace d13 : vs 13 = (.bool true) := d13
                clear hd
                simp only [Par.GivesV, d13]
                go_simp
                all_goals exact ⟨rfl, Below.refl _ _⟩
              · have d13 := hd 13 (by decide) (by kernel_rfl)
                replace d13 : vs 13 = (.bool true) := d13
                clear hd
                simp only [Par.GivesV, d13]
                go_simp
                all_goals exact ⟨rfl, Below.refl _ _⟩
              · have d13 := hd 13 (by decide) (by kernel_rfl)
                replace d13 : vs 13 = (.bool true) := d13
                clear hd
                simp only [Par.GivesV, d13]
                go_simp
                all_goals exact ⟨rfl, Below.refl _ _⟩
              · have d13 := hd 13 (by decide) (by kernel_rfl)
                replace d13 : vs 13 = (.bool true) := d13
                have d16 := hd 16 (by decide) (by kernel_rfl)
                replace d16 : vs 16 = (.int .i64 n) := d16
                clear hd
                simp only [Par.GivesV, d13, d16]
                go_simp
                all_goals exact ⟨rfl, Below.refl _ _⟩
              · have d13 := hd 13 (by decide) (by kernel_rfl)
                replace d13 : vs 13 = (.bool true) := d13
                have d15 := hd 15 (by decide) (by kernel_rfl)
                replace d15 : vs 15 = (.slice (some ⟨bl, ol, none⟩) n cl) := d15
                have d17 := hd 17 (by decide) (by kernel_rfl)
                replace d17 : vs 17 = (.int .i64 n1) := d17
                clear hd
                simp only [Par.GivesV, d13, d15, d17]
                go_simp
                all_goals exact ⟨rfl, Below.refl _ _⟩
              · have d13 := hd 13 (by decide) (by kernel_rfl)
                replace d13 : vs 13 = (.bool true) := d13
                have d18 := hd 18 (by decide) (by kernel_rfl)
                replace d18 : vs 18 = (Value.pointer (some ⟨bl, ol + n1 * 4, none⟩)) := d18
                clear hd
                simp only [Par.GivesV, d13, d18]
                go_simp
                all_goals exact ⟨rfl, Below.refl _ _⟩
              · have d13 := hd 13 (by decide) (by kernel_rfl)
                replace d13 : vs 13 = (.bool true) := d13
                have d19 := hd 19 (by decide) (by kernel_rfl)
                replace d19 : vs 19 = (Value.pointer (some ⟨bl, ol + n1 * 4, none⟩)) := d19
                have k0 := (HC.out w hK).2
                clear hd
                simp only [Par.GivesV, d13, d19]
                go_simp
                all_goals exact ⟨rfl, Below.refl _ _⟩
              · have d13 := hd 13 (by decide) (by kernel_rfl)
                replace d13 : vs 13 = (.bool true) := d13
                have d14 := hd 14 (by decide) (by kernel_rfl)
                replace d14 : vs 14 = (Value.pointer (some ⟨S2, 0, none⟩)) := d14
                have d20 := hd 20 (by decide) (by kernel_rfl)
                replace d20 : vs 20 = (.string t1) := d20
                clear hd
                simp only [Par.GivesV, d13, d14, d20]
                go_simp
                exact (HALL.out w hK).mono (fun e w'' ⟨p, c, h1, h2⟩ => ⟨_, h1, ⟨⟨p, c, rfl⟩, h2⟩⟩)
              · have d13 := hd 13 (by decide) (by kernel_rfl)
                replace d13 : vs 13 = (.bool true) := d13
                have d21 := hd 21 (by decide) (by kernel_rfl)
                obtain ⟨pz, cz, d21⟩ := d21
                clear hd
                simp only [Par.GivesV, d13]
                go_simp
                all_goals exact ⟨rfl, Below.refl _ _⟩
              · have d13 := hd 13 (by decide) (by kernel_rfl)
                replace d13 : vs 13 = (.bool true) := d13
                clear hd
                simp only [Par.GivesV, d13]
                go_simp
                all_goals exact ⟨rfl, Below.refl _ _⟩
              · have d13 := hd 13 (by decide) (by kernel_rfl)
                replace d13 : vs 13 = (.bool true) := d13
                clear hd
                simp only [Par.GivesV, d13]
                go_simp
                all_goals exact ⟨rfl, Below.refl _ _⟩
              · have d13 := hd 13 (by decide) (by kernel_rfl)
                replace d13 : vs 13 = (.bool true) := d13
                clear hd
                simp only [Par.GivesV, d13]
                go_simp
                all_goals exact ⟨rfl, Below.refl _ _⟩
              · have d13 := hd 13 (by decide) (by kernel_rfl)
                replace d13 : vs 13 = (.bool true) := d13
                have d25 := hd 25 (by decide) (by kernel_rfl)
                replace d25 : vs 25 = (.int .i64 n) := d25
                clear hd
                simp only [Par.GivesV, d13, d25]
                go_simp
                all_goals exact ⟨rfl, Below.refl _ _⟩
              · have d13 := hd 13 (by decide) (by kernel_rfl)
                replace d13 : vs 13 = (.bool true) := d13
                have d24 := hd 24 (by decide) (by kernel_rfl)
                replace d24 : vs 24 = (.slice (some ⟨bl, ol, none⟩) n cl) := d24
                have d26 := hd 26 (by decide) (by kernel_rfl)
                replace d26 : vs 26 = (.int .i64 n1) := d26
                clear hd
                simp only [Par.GivesV, d13, d24, d26]
                go_simp
                all_goals exact ⟨rfl, Below.refl _ _⟩
              · have d13 := hd 13 (by decide) (by kernel_rfl)
                replace d13 : vs 13 = (.bool true) := d13
                have d27 := hd 27 (by decide) (by kernel_rfl)
                replace d27 : vs 27 = (Value.pointer (some ⟨bl, ol + n1 * 4, none⟩)) := d27
                clear hd
                simp only [Par.GivesV, d13, d27]
                go_simp
                all_goals exact ⟨rfl, Below.refl _ _⟩
              · have d13 := hd 13 (by decide) (by kernel_rfl)
                replace d13 : vs 13 = (.bool true) := d13
                have d28 := hd 28 (by decide) (by kernel_rfl)
                replace d28 : vs 28 = (Value.pointer (some ⟨bl, ol + n1 * 4, none⟩)) := d28
                have k0 := (HC.out w hK).2
                clear hd
                simp only [Par.GivesV, d13, d28]
                go_simp
                all_goals exact ⟨rfl, Below.refl _ _⟩
              · have d13 := hd 13 (by decide) (by kernel_rfl)
                replace d13 : vs 13 = (.bool true) := d13
                have d23 := hd 23 (by decide) (by kernel_rfl)
                replace d23 : vs 23 = (.slice pk nk2 ck) := d23
                have d29 := hd 29 (by decide) (by kernel_rfl)
                replace d29 : vs 29 = (.string t1) := d29
                clear hd
                simp only [Par.GivesV, d13, d23, d29]
                go_simp
                exact (HREF.out w hK).mono (fun e w'' ⟨p, c, h1, h2⟩ => ⟨_, h1, ⟨⟨p, c, rfl⟩, h2⟩⟩)
              · have d13 := hd 13 (by decide) (by kernel_rfl)
                replace d13 : vs 13 = (.bool true) := d13
                have d30 := hd 30 (by decide) (by kernel_rfl)
                obtain ⟨pz, cz, d30⟩ := d30
                clear hd
                simp only [Par.GivesV, d13]
                go_simp
                all_goals exact ⟨rfl, Below.refl _ _⟩
              · have d13 := hd 13 (by decide) (by kernel_rfl)
                replace d13 : vs 13 = (.bool true) := d13
                have d22 := hd 22 (by decide) (by kernel_rfl)
                replace d22 : vs 22 = (.int .i64 M) := d22
                have d31 := hd 31 (by decide) (by kernel_rfl)
                replace d31 : vs 31 = (.int .i64 M) := d31
                clear hd
                simp only [Par.GivesV, d13, d22, d31]
                go_simp
                all_goals exact ⟨rfl, Below.refl _ _⟩
              · have d13 := hd 13 (by decide) (by kernel_rfl)
                replace d13 : vs 13 = (.bool true) := d13
                have d32 := hd 32 (by decide) (by kernel_rfl)
                replace d32 : vs 32 = (.bool true) := d32
                clear hd
                simp only [Par.GivesV, d13, d32]
                go_simp
                all_goals exact ⟨rfl, Below.refl _ _⟩
              · have d33 := hd 33 (by decide) (by kernel_rfl)
                replace d33 : vs 33 = (.bool true) := d33
                clear hd
                simp only [Par.GivesV, d33]
                go_simp
                all_goals exact ⟨rfl, Below.refl _ _⟩
              · have d34 := hd 34 (by decide) (by kernel_rfl)
                replace d34 : vs 34 = (.bool true) := d34
                clear hd
                simp only [Par.GivesV, d34]
                go_simp
                all_goals exact ⟨rfl, Below.refl _ _⟩
              · have d34 := hd 34 (by decide) (by kernel_rfl)
                replace d34 : vs 34 = (.bool true) := d34
                clear hd
                simp only [Par.GivesV, d34]
                go_simp
                all_goals exact ⟨rfl, Below.refl _ _⟩
              · have d34 := hd 34 (by decide) (by kernel_rfl)
                replace d34 : vs 34 = (.bool true) := d34
                clear hd
                simp only [Par.GivesV, d34]
                go_simp
                all_goals exact ⟨rfl, Below.refl _ _⟩
              · have d34 := hd 34 (by decide) (by kernel_rfl)
                replace d34 : vs 34 = (.bool true) := d34
                have d37 := hd 37 (by decide) (by kernel_rfl)
                replace d37 : vs 37 = (.int .i64 n) := d37
                clear hd
                simp only [Par.GivesV, d34, d37]
                go_simp
                all_goals exact ⟨rfl, Below.refl _ _⟩
              · have d34 := hd 34 (by decide) (by kernel_rfl)
                replace d34 : vs 34 = (.bool true) := d34
                have d36 := hd 36 (by decide) (by kernel_rfl)
                replace d36 : vs 36 = (.slice (some ⟨bl, ol, none⟩) n cl) := d36
                have d38 := hd 38 (by decide) (by kernel_rfl)
                replace d38 : vs 38 = (.int .i64 n1) := d38
                clear hd
                simp only [Par.GivesV, d34, d36, d38]
                go_simp
                all_goals exact ⟨rfl, Below.refl _ _⟩
              · have d34 := hd 34 (by decide) (by kernel_rfl)
                replace d34 : vs 34 = (.bool true) := d34
                have d39 := hd 39 (by decide) (by kernel_rfl)
                replace d39 : vs 39 = (Value.pointer (some ⟨bl, ol + n1 * 4, none⟩)) := d39
                clear hd
                simp only [Par.GivesV, d34, d39]
                go_simp
                all_goals exact ⟨rfl, Below.refl _ _⟩
              · have d34 := hd 34 (by decide) (by kernel_rfl)
                replace d34 : vs 34 = (.bool true) := d34
                have d40 := hd 40 (by decide) (by kernel_rfl)
                replace d40 : vs 40 = (Value.pointer (some ⟨bl, ol + n1 * 4, none⟩)) := d40
                have k0 := (HC.out w hK).2
                clear hd
                simp only [Par.GivesV, d34, d40]
                go_simp
                all_goals exact ⟨rfl, Below.refl _ _⟩
              · have d34 := hd 34 (by decide) (by kernel_rfl)
                replace d34 : vs 34 = (.bool true) := d34
                have d35 := hd 35 (by decide) (by kernel_rfl)
                replace d35 : vs 35 = (Value.pointer (some ⟨S2, 0, none⟩)) := d35
                have d41 := hd 41 (by decide) (by kernel_rfl)
                replace d41 : vs 41 = (.string t1) := d41
                clear hd
                simp only [Par.GivesV, d34, d35, d41]
                go_simp
                exact (HALL.out w hK).mono (fun e w'' ⟨p, c, h1, h2⟩ => ⟨_, h1, ⟨⟨p, c, rfl⟩, h2⟩⟩)
              · have d34 := hd 34 (by decide) (by kernel_rfl)
                replace d34 : vs 34 = (.bool true) := d34
                have d42 := hd 42 (by decide) (by kernel_rfl)
                obtain ⟨pz, cz, d42⟩ := d42
                clear hd
                simp only [Par.GivesV, d34]
                go_simp
                all_goals exact ⟨rfl, Below.refl _ _⟩
              · have d34 := hd 34 (by decide) (by kernel_rfl)
                replace d34 : vs 34 = (.bool true) := d34
                clear hd
                simp only [Par.GivesV, d34]
                go_simp
                all_goals exact ⟨rfl, Below.refl _ _⟩
              · have d34 := hd 34 (by decide) (by kernel_rfl)
                replace d34 : vs 34 = (.bool true) := d34
                have d44 := hd 44 (by decide) (by kernel_rfl)
                replace d44 : vs 44 = (.int .i64 n) := d44
                clear hd
                simp only [Par.GivesV, d34, d44]
                go_simp
                all_goals exact ⟨rfl, Below.refl _ _⟩
              · have d34 := hd 34 (by decide) (by kernel_rfl)
                replace d34 : vs 34 = (.bool true) := d34
                clear hd
                simp only [Par.GivesV, d34]
                go_simp
                all_goals exact ⟨rfl, Below.refl _ _⟩
              · have d34 := hd 34 (by decide) (by kernel_rfl)
                replace d34 : vs 34 = (.bool true) := d34
                have d46 := hd 46 (by decide) (by kernel_rfl)
                replace d46 : vs 46 = (.int .i64 n) := d46
                clear hd
                simp only [Par.GivesV, d34, d46]
                go_simp
                all_goals exact ⟨rfl, Below.refl _ _⟩
              · have d34 := hd 34 (by decide) (by kernel_rfl)
                replace d34 : vs 34 = (.bool true) := d34
                have d47 := hd 47 (by decide) (by kernel_rfl)
                replace d47 : vs 47 = (.int .i64 n1) := d47
                clear hd
                simp only [Par.GivesV, d34, d47]
                go_simp
                all_goals exact ⟨rfl, Below.refl _ _⟩
              · have d34 := hd 34 (by decide) (by kernel_rfl)
                replace d34 : vs 34 = (.bool true) := d34
                have d45 := hd 45 (by decide) (by kernel_rfl)
                replace d45 : vs 45 = (.int .i64 mA) := d45
                have d48 := hd 48 (by decide) (by kernel_rfl)
                replace d48 : vs 48 = (.int .i64 mB) := d48
                clear hd
                simp only [Par.GivesV, d34, d45, d48]
                go_simp
                all_goals exact ⟨rfl, Below.refl _ _⟩
              · have d34 := hd 34 (by decide) (by kernel_rfl)
                replace d34 : vs 34 = (.bool true) := d34
                have d43 := hd 43 (by decide) (by kernel_rfl)
                replace d43 : vs 43 = (.int .i64 M) := d43
                have d49 := hd 49 (by decide) (by kernel_rfl)
                replace d49 : vs 49 = (.int .i64 M) := d49
                clear hd
                simp only [Par.GivesV, d34, d43, d49]
                go_simp
                all_goals exact ⟨rfl, Below.refl _ _⟩
              · have d34 := hd 34 (by decide) (by kernel_rfl)
                replace d34 : vs 34 = (.bool true) := d34
                have d50 := hd 50 (by decide) (by kernel_rfl)
                replace d50 : vs 50 = (.bool true) := d50
                clear hd
                simp only [Par.GivesV, d34, d50]
                go_simp
                all_goals exact ⟨rfl, Below.refl _ _⟩
            case hT2 =>
              intro vs w' hK hV
              simp only [List.drop_succ_cons, List.drop_zero]
              have d0 := hV 0 (by decide)
              replace d0 : vs 0 = (.int .i64 0) := d0
              have d1 := hV 1 (by decide)
              replace d1 : vs 1 = (.bool true) := d1
              have d2 := hV 2 (by decide)
              replace d2 : vs 2 = (.bool true) := d2
              have d3 := hV 3 (by decide)
              replace d3 : vs 3 = (.string u) := d3
              have d4 := hV 4 (by decide)
              replace d4 : vs 4 = (.slice (some ⟨bl, ol, none⟩) n cl) := d4
              have d5 := hV 5 (by decide)
              replace d5 : vs 5 = (.int .i64 n) := d5
              have d6 := hV 6 (by decide)
              replace d6 : vs 6 = (.int .i64 k) := d6
              have d7 := hV 7 (by decide)
              replace d7 : vs 7 = (.int .i64 nk) := d7
              have d8 := hV 8 (by decide)
              replace d8 : vs 8 = (Value.pointer (some ⟨bl, ol + nk * 4, none⟩)) := d8
              have d9 := hV 9 (by decide)
              replace d9 : vs 9 = (Value.pointer (some ⟨bl, ol + nk * 4, none⟩)) := d9
              have d10 := hV 10 (by decide)
              replace d10 : vs 10 = (.string u) := d10
              have d11 := hV 11 (by decide)
              replace d11 : vs 11 = (.bool true) := d11
              have d12 := hV 12 (by decide)
              replace d12 : vs 12 = (.bool true) := d12
              have d13 := hV 13 (by decide)
              replace d13 : vs 13 = (.bool true) := d13
              have d14 := hV 14 (by decide)
              replace d14 : vs 14 = (Value.pointer (some ⟨S2, 0, none⟩)) := d14
              have d15 := hV 15 (by decide)
              replace d15 : vs 15 = (.slice (some ⟨bl, ol, none⟩) n cl) := d15
              have d16 := hV 16 (by decide)
              replace d16 : vs 16 = (.int .i64 n) := d16
              have d17 := hV 17 (by decide)
              replace d17 : vs 17 = (.int .i64 n1) := d17
              have d18 := hV 18 (by decide)
              replace d18 : vs 18 = (Value.pointer (some ⟨bl, ol + n1 * 4, none⟩)) := d18
              have d19 := hV 19 (by decide)
              replace d19 : vs 19 = (Value.pointer (some ⟨bl, ol + n1 * 4, none⟩)) := d19
              have d20 := hV 20 (by decide)
              replace d20 : vs 20 = (.string t1) := d20
              have d21 := hV 21 (by decide)
              have d22 := hV 22 (by decide)
              replace d22 : vs 22 = (.int .i64 M) := d22
              have d23 := hV 23 (by decide)
              replace d23 : vs 23 = (.slice pk nk2 ck) := d23
              have d24 := hV 24 (by decide)
              replace d24 : vs 24 = (.slice (some ⟨bl, ol, none⟩) n cl) := d24
              have d25 := hV 25 (by decide)
              replace d25 : vs 25 = (.int .i64 n) := d25
              have d26 := hV 26 (by decide)
              replace d26 : vs 26 = (.int .i64 n1) := d26
              have d27 := hV 27 (by decide)
              replace d27 : vs 27 = (Value.pointer (some ⟨bl, ol + n1 * 4, none⟩)) := d27
              have d28 := hV 28 (by decide)
              replace d28 : vs 28 = (Value.pointer (some ⟨bl, ol + n1 * 4, none⟩)) := d28
              have d29 := hV 29 (by decide)
              replace d29 : vs 29 = (.string t1) := d29
              have d30 := hV 30 (by decide)
              have d31 := hV 31 (by decide)
              replace d31 : vs 31 = (.int .i64 M) := d31
              have d32 := hV 32 (by decide)
              replace d32 : vs 32 = (.bool true) := d32
              have d33 := hV 33 (by decide)
              replace d33 : vs 33 = (.bool true) := d33
              have d34 := hV 34 (by decide)
              replace d34 : vs 34 = (.bool true) := d34
              have d35 := hV 35 (by decide)
              replace d35 : vs 35 = (Value.pointer (some ⟨S2, 0, none⟩)) := d35
              have d36 := hV 36 (by decide)
              replace d36 : vs 36 = (.slice (some ⟨bl, ol, none⟩) n cl) := d36
              have d37 := hV 37 (by decide)
              replace d37 : vs 37 = (.int .i64 n) := d37
              have d38 := hV 38 (by decide)
              replace d38 : vs 38 = (.int .i64 n1) := d38
              have d39 := hV 39 (by decide)
              replace d39 : vs 39 = (Value.pointer (some ⟨bl, ol + n1 * 4, none⟩)) := d39
              have d40 := hV 40 (by decide)
              replace d40 : vs 40 = (Value.pointer (some ⟨bl, ol + n1 * 4, none⟩)) := d40
              have d41 := hV 41 (by decide)
              replace d41 : vs 41 = (.string t1) := d41
              have d42 := hV 42 (by decide)
              have d43 := hV 43 (by decide)
              replace d43 : vs 43 = (.int .i64 M) := d43
              have d44 := hV 44 (by decide)
              replace d44 : vs 44 = (.int .i64 n) := d44
              have d45 := hV 45 (by decide)
              replace d45 : vs 45 = (.int .i64 mA) := d45
              have d46 := hV 46 (by decide)
              replace d46 : vs 46 = (.int .i64 n) := d46
              have d47 := hV 47 (by decide)
              replace d47 : vs 47 = (.int .i64 n1) := d47
              have d48 := hV 48 (by decide)
              replace d48 : vs 48 = (.int .i64 mB) := d48
              have d49 := hV 49 (by decide)
              replace d49 : vs 49 = (.int .i64 M) := d49
              have d50 := hV 50 (by decide)
              replace d50 : vs 50 = (.bool true) := d50
              have d51 := hV 51 (by decide)
              replace d51 : vs 51 = (.bool true) := d51
              clear hV
              simp only [d0, d1, d2, d3, d4, d5, d6, d7, d8, d9, d10, d11, d12, d13, d14, d15, d16, d17, d18, d19, d20, d22, d23, d24, d25, d26, d27, d28, d29, d31, d32, d33, d34, d35, d36, d37, d38, d39, d40, d41, d43, d44, d45, d46, d47, d48, d49, d50, d51]
              clear d0 d1 d2 d3 d4 d5 d6 d7 d8 d9 d10 d11 d12 d13 d14 d15 d16 d17 d18 d19 d20 d22 d23 d24 d25 d26 d27 d28 d29 d31 d32 d33 d34 d35 d36 d37 d38 d39 d40 d41 d43 d44 d45 d46 d47 d48 d49 d50 d51
              have HE := Lib.hid (below_on K6.out.2 hK)
              have HE2 := Lib.hid (HFIN.out.trans (hK.mono HFIN.out.size))
              clear hK
              go_wp2_with fail
              go_ret
              exact ⟨rfl, HE2.out⟩
end Go.Proofs.Ytcgceigcegddlaa
