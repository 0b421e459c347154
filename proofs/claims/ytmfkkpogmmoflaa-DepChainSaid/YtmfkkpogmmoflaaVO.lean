/- DepChain: its walk. -/
import Derived.Test.YtmfkkpogmmoflaaVN
namespace Go.Proofs.Ytmfkkpogmmoflaa
open Go Go.RowKit Go.Proofs

set_option maxRecDepth 100000 in
set_option maxHeartbeats 8000000 in
theorem depChain_walk (a b c : Int) (W : World) : Calls Try.prog 5 #[.int .i64 a, .int .i64 b, .int .i64 c] W fun e w' => e = .returned (.bool true) ∧ Below W.heap.size W w' := by
  by_cases k1 : a < 2
  · go_enter Try.func5, Try.ntmps5
    go_wp2_with (go_at_call 6; (with_reducible refine (dbegun_any _).mono ?_); rintro e w0 ⟨rfl, hb⟩)
    go_ret
    exact ⟨rfl, hb⟩
  by_cases k2 : 4 < a
  · go_enter Try.func5, Try.ntmps5
    go_wp2_with (go_at_call 6; (with_reducible refine (dbegun_any _).mono ?_); rintro e w0 ⟨rfl, hb⟩)
    go_ret
    exact ⟨rfl, hb⟩
  by_cases k3 : b < 0
  · go_enter Try.func5, Try.ntmps5
    go_wp2_with (go_at_call 6; (with_reducible refine (dbegun_any _).mono ?_); rintro e w0 ⟨rfl, hb⟩)
    go_ret
    exact ⟨rfl, hb⟩
  by_cases k4 : a ≤ b
  · go_enter Try.func5, Try.ntmps5
    go_wp2_with (go_at_call 6; (with_reducible refine (dbegun_any _).mono ?_); rintro e w0 ⟨rfl, hb⟩)
    go_ret
    exact ⟨rfl, hb⟩
  by_cases k5 : c < 0
  · go_enter Try.func5, Try.ntmps5
    go_wp2_with (go_at_call 6; (with_reducible refine (dbegun_any _).mono ?_); rintro e w0 ⟨rfl, hb⟩)
    go_ret
    exact ⟨rfl, hb⟩
  by_cases k6 : a ≤ c
  · go_enter Try.func5, Try.ntmps5
    go_wp2_with (go_at_call 6; (with_reducible refine (dbegun_any _).mono ?_); rintro e w0 ⟨rfl, hb⟩)
    go_ret
    exact ⟨rfl, hb⟩
  obtain ⟨n, rfl⟩ := Int.eq_ofNat_of_zero_le (show 0 ≤ a by omega)
  obtain ⟨f, rfl⟩ := Int.eq_ofNat_of_zero_le (show 0 ≤ b by omega)
  obtain ⟨t, rfl⟩ := Int.eq_ofNat_of_zero_le (show 0 ≤ c by omega)
  have rn : n < 5 := by omega
  have rn1 : 1 < n := by omega
  have rf : f < n := by omega
  have rt : t < n := by omega
  have d1 : decide ((n : Int) < 2) = false := decide_eq_false (by omega)
  have d2 : decide ((4 : Int) < (n : Int)) = false := decide_eq_false (by omega)
  have d3 : decide ((f : Int) < 0) = false := decide_eq_false (by omega)
  have d4 : decide ((n : Int) ≤ (f : Int)) = false := decide_eq_false (by omega)
  have d5 : decide ((t : Int) < 0) = false := decide_eq_false (by omega)
  have d6 : decide ((n : Int) ≤ (t : Int)) = false := decide_eq_false (by omega)
  have d7 : decide (n ≤ f) = false := decide_eq_false (by omega)
  have d8 : decide (n ≤ t) = false := decide_eq_false (by omega)
  have HNN := Lib.hid (And.intro rn (And.intro rn1 (And.intro rf rt)))
  clear k1 k2 k3 k4 k5 k6
  go_enter Try.func5, Try.ntmps5
  go_upto_region 7 with (go_at_call 6; (with_reducible refine (dbegun_any _).mono ?_); rintro e w0 ⟨rfl, hb0⟩; have H0 := Lib.hid hb0; clear hb0)
  clear d1 d2 d3 d4 d5 d6 d7 d8
  have hbx := heap_alloc_new w0 (boxT zT (.slice none 0 0) e0 (.slice none 0 0))
  have hbb := below_alloc w0 (boxT zT (.slice none 0 0) e0 (.slice none 0 0))
  obtain ⟨S, hS⟩ : ∃ S, w0.heap.size = S := ⟨_, rfl⟩
  obtain ⟨w1, hw1⟩ : ∃ x, w0.alloc (boxT zT (.slice none 0 0) e0 (.slice none 0 0)) = x := ⟨_, rfl⟩
  rw [hS, hw1] at hbx
  rw [hS, hw1] at hbb
  rw [hS, hw1]
  have hC1 : CH S w0 0 0 (.slice none 0 0) (.slice none 0 0) [] w1 := ⟨hbx, HRow.nil, DepsI.nil _ _, hbb⟩
  have HC1 := Lib.hid hC1
  have HS := Lib.hid hS
  clear hbx hbb hw1 hC1 hS
  go_upto_block 0 with fail
  go_cut [] from 300 to 300 (fun wx => ∃ (cv dv : Value) (ps : List Value), CH S w0 n (n - 1) cv dv ps wx)
  case first =>
    go_wp2_with fail
    go_loopg [9] (n + 1) (fun gh iv w => ∃ (i : Nat) (cv dv : Value) (ps : List Value), iv = .int .i64 (i : Int) ∧ i ≤ n ∧ n + 1 ≤ i + gh ∧ CH S w0 i (i - 1) cv dv ps w)
    case atStart => exact ⟨0, _, _, [], rfl, Nat.zero_le _, by omega, HC1.out⟩
    case round =>
      obtain ⟨i, cv, dv, ps, rfl, hi, hg, hC⟩ := hrel
      obtain ⟨w2, rfl⟩ : ∃ x, x = wr := ⟨_, rfl⟩
      obtain ⟨pc, cc, rfl, _, _⟩ := hC.c.isslice
      obtain ⟨pd, cd, ed, _, _⟩ := hC.d.d.isslice
      rw [depsN_len] at ed
      subst ed
      have HC := Lib.hid hC
      by_cases hlt : i < n
      · have hu := u8_N i (by omega)
        have wu : IntKind.u8.wrap (48 + (i : Int)) = 48 + (i : Int) := by rw [IntKind.wrap_u8]; omega
        have wi : IntKind.i64.wrap (48 + (i : Int)) = 48 + (i : Int) := by rw [IntKind.wrap_i64]; omega
        obtain ⟨sx, hsx⟩ : ∃ s, cN i = s := ⟨_, rfl⟩
        have cvt : (convert 46 9 (.slice (some ⟨w2.heap.size, 0, none⟩) 2 2)).run Try.prog (w2.alloc (.cells #[.int .u8 99, .int .u8 (48 + (i : Int))] 5)) = .ok (.string sx) (w2.alloc (.cells #[.int .u8 99, .int .u8 (48 + (i : Int))] 5)) := by rw [← hsx]; exact conv2 (heap_alloc_new w2 _) (v := 99) rfl hu
        have HSX := Lib.hid hsx
        have hb3 := below_alloc w2 (.cells #[.int .u8 99, .int .u8 (48 + (i : Int))] 5)
        have hC3 := hC.on hb3
        obtain ⟨g, cap, w4, hrun, hr4, hg4, _⟩ := app_one (ty := 39) Try.underlying39 info43 (by kernel_rfl) (by decide) (by decide) (w2.alloc (.cells #[.int .u8 99, .int .u8 (48 + (i : Int))] 5)) (S + 1) hC3.c (by omega) hC3.sz #[.string sx, .int .i64 1, .bool true, .string e0] rfl (by
          intro u hu
          simp only [List.mem_cons, List.not_mem_nil, or_false] at hu
          rcases hu with rfl | rfl | rfl | rfl <;> rfl)
        have hcs : cellsC (colsN i) ++ (#[.string sx, .int .i64 1, .bool true, .string e0] : Array Value).toList = cellsC (colsN (i + 1)) := by
          rw [colsN_succ, cellsC_append, ← hsx]; rfl
        rw [hcs] at hr4
        rw [World.size_alloc] at hrun
        obtain ⟨hx4, hC5⟩ := hC3.col hr4 hg4
        have z1 := nd_cell hC.box 1
        have zl := lt_of_heap hC.box
        have x1 := nd_cell hC3.box 1
        have xl := lt_of_heap hC3.box
        have y1 := nd_cell hx4 1
        have yf := frozen_of_row w4 S 1 _ _ hx4
        have yl := lt_of_heap hx4
        obtain ⟨w5, hw5⟩ : ∃ x, w4.setCell ⟨S, 1, none⟩ (.slice (some ⟨g, 0, none⟩) (i + 1) cap) = x := ⟨_, rfl⟩
        have HW5 := Lib.hid hw5
        rw [hw5] at hC5
        have H5 := Lib.hid hC5
        have hii : (i : Int) < (n : Int) := by omega
        clear hC hC3 hb3 hsx hu hr4 hg4 hcs hx4 hC5 hw5
        go_upto_region 11 with (at_builtin; refine wpList_append_run rfl (.tmp 46) (.tmp 53) 39 rfl rfl rfl hrun ?_)
        rw [HW5.out]
        clear z1 zl x1 xl y1 yf yl cvt wu wi hrun
        by_cases h0 : i = 0
        · have hd1 : decide (0 < i) = false := decide_eq_false (by omega)
          have hd0 : decide ((0 : Int) < (i : Int)) = false := decide_eq_false (by omega)
          have HI0 := Lib.hid h0
          clear h0
          go_wp2_with fail
          go_roundg (n - i)
          case measure => omega
          case rel => exact ⟨i + 1, _, _, ps, by go_num, by omega, by omega, by have h := H5.out; have e : i - 1 = i + 1 - 1 := (by have := HI0.out; omega); rw [e] at h; exact h⟩
        · obtain ⟨k, hk⟩ : ∃ k, i = k + 1 := ⟨i - 1, by omega⟩
          have h5 := H5.out
          rw [show i - 1 = k by omega] at h5
          have hsl := h5.c.isslice
          have hkl : k < (colsN (i + 1)).length := by rw [colsN_len]; omega
          have hil : i < (colsN (i + 1)).length := by rw [colsN_len]; omega
          have ck := (cellsC_at (colsN (i + 1)) k hkl).1
          have ci := (cellsC_at (colsN (i + 1)) i hil).1
          rw [colsN_at] at ck ci
          have hck := h5.c.cell ck
          have hci := h5.c.cell ci
          obtain ⟨ux, hux⟩ : ∃ s, cN k = s := ⟨_, rfl⟩
          rw [show (colN k).nm = ux from hux] at hck
          rw [show (colN i).nm = sx from HSX.out] at hci
          have HQ : Hid (∀ w, Below w5.heap.size w5 w → w.cell? ⟨g, k * 4, none⟩ = some (.string ux) ∧ w.cell? ⟨g, i * 4, none⟩ = some (.string sx)) := Lib.hid (fun w hb => ⟨bel_cell hb hck, bel_cell hb hci⟩)
          have HK := Lib.hid (And.intro hk (And.intro hux h5))
          have hd0 : decide ((0 : Int) < (i : Int)) = true := decide_eq_true (by omega)
          have hd1 : decide (0 < i) = true := decide_eq_true (by omega)
          have hwa : IntKind.i64.wrap (k : Int) = (k : Int) := by rw [IntKind.wrap_i64]; omega
          have hi2 : (i : Int) - 1 = (k : Int) := by omega
          have q1 : (k : Int) < (i : Int) + 1 := by omega
          have q2 : (i : Int) < (i : Int) + 1 := by omega
          have q3 : k < i + 1 := by omega
          have q4 : i < i + 1 := by omega
          have hsz5 := h5.sz
          have HZ := Lib.hid hsz5
          clear h5 hsl hkl hil ck ci hck hci hux hsz5 h0 hk
          go_upto_region 12 with fail
          refine Par.wp_region_par2 18 (fun w => Below w5.heap.size w5 w) (Par.VL [(.eq (Value.pointer (some ⟨S, 3, none⟩))), (.eq (.slice pd k cd)), (.eq (Value.pointer (some ⟨S, 1, none⟩))), (.eq (.slice (some ⟨g, 0, none⟩) (i + 1) cap)), (.eq (.int .i64 i)), (.eq (.int .i64 k)), (.eq (Value.pointer (some ⟨g, k * 4, none⟩))), (.eq (Value.pointer (some ⟨g, k * 4, none⟩))), (.eq (.string ux)), ((Par.VW.objN (S + 1) (fun g => .slice (some ⟨g, 0, none⟩) 1 1) (.cells #[.string ux] 9))), (.eq (Value.pointer (some ⟨S, 1, none⟩))), (.eq (.slice (some ⟨g, 0, none⟩) (i + 1) cap)), (.eq (.int .i64 i)), (.eq (Value.pointer (some ⟨g, i * 4, none⟩))), (.eq (Value.pointer (some ⟨g, i * 4, none⟩))), (.eq (.string sx)), ((dlV (S + 1) ux sx)), ((dsV (S + 1) ux sx))]) ?A1 ?hm1 ?hB1 (fun w w' h hb => below_on h hb) (Par.VL.mono _) ?hA1 ((below_drew w5)) ?hop1 ?hT1
          case hm1 => kernel_rfl
          case hB1 => kernel_rfl
          case hA1 =>
            intro vs
            simp only [Par.putA, Par.dstAt, Act.put, List.getElem?_toArray, List.getElem?_cons_zero, List.getElem?_cons_succ, Option.bind_some, List.setIfInBounds_toArray, List.set_cons_zero, List.set_cons_succ]
            rfl
          case hop1 =>
            simp only [List.take_succ_cons, List.take_zero, Par.GiveAllV, and_true]
            refine ⟨fun vs w hK hd => ?_, fun vs w hK hd => ?_, fun vs w hK hd => ?_, fun vs w hK hd => ?_, fun vs w hK hd => ?_, fun vs w hK hd => ?_, fun vs w hK hd => ?_, fun vs w hK hd => ?_, fun vs w hK hd => ?_, fun vs w hK hd => ?_, fun vs w hK hd => ?_, fun vs w hK hd => ?_, fun vs w hK hd => ?_, fun vs w hK hd => ?_, fun vs w hK hd => ?_, fun vs w hK hd => ?_, fun vs w hK hd => ?_, fun vs w hK hd => ?_⟩
            · clear hd
              simp only [Par.GivesV]
              go_simp
              all_goals exact ⟨rfl, Below.refl _ _⟩
            · have d0 := hd 0 (by decide) (by kernel_rfl)
              replace d0 : vs 0 = (Value.pointer (some ⟨S, 3, none⟩)) := d0
              have k := nd_cell (heap_on hK HK.out.2.2.box) 3
              clear hd
              simp only [Par.GivesV, d0]
              go_simp
              all_goals exact ⟨rfl, Below.refl _ _⟩
            · clear hd
              simp only [Par.GivesV]
              go_simp
              all_goals exact ⟨rfl, Below.refl _ _⟩
            · have d2 := hd 2 (by decide) (by kernel_rfl)
              replace d2 : vs 2 = (Value.pointer (some ⟨S, 1, none⟩)) := d2
              have k := nd_cell (heap_on hK HK.out.2.2.box) 1
              clear hd
              simp only [Par.GivesV, d2]
              go_simp
              all_goals exact ⟨rfl, Below.refl _ _⟩
            · clear hd
              simp only [Par.GivesV]
              go_simp
              all_goals exact ⟨rfl, Below.refl _ _⟩
            · have d4 := hd 4 (by decide) (by kernel_rfl)
              replace d4 : vs 4 = (.int .i64 i) := d4
              clear hd
              simp only [Par.GivesV, d4]
              go_simp
              all_goals exact ⟨rfl, Below.refl _ _⟩
            · have d3 := hd 3 (by decide) (by kernel_rfl)
              replace d3 : vs 3 = (.slice (some ⟨g, 0, none⟩) (i + 1) cap) := d3
              have d5 := hd 5 (by decide) (by kernel_rfl)
              replace d5 : vs 5 = (.int .i64 k) := d5
              clear hd
              simp only [Par.GivesV, d3, d5]
              go_simp
              all_goals exact ⟨rfl, Below.refl _ _⟩
            · have d6 := hd 6 (by decide) (by kernel_rfl)
              replace d6 : vs 6 = (Value.pointer (some ⟨g, k * 4, none⟩)) := d6
              clear hd
              simp only [Par.GivesV, d6]
              go_simp
              all_goals exact ⟨rfl, Below.refl _ _⟩
            · have d7 := hd 7 (by decide) (by kernel_rfl)
              replace d7 : vs 7 = (Value.pointer (some ⟨g, k * 4, none⟩)) := d7
              have k := (HQ.out w hK).1
              clear hd
              simp only [Par.GivesV, d7]
              go_simp
              all_goals exact ⟨rfl, Below.refl _ _⟩
            · have d8 := hd 8 (by decide) (by kernel_rfl)
              replace d8 : vs 8 = (.string ux) := d8
              have hBs := Nat.le_trans HZ.out hK.size
              clear hd
              simp only [Par.GivesV, d8]
              go_simp
              exact ⟨⟨_, hBs, rfl, heap_alloc_new w _⟩, below_alloc w _⟩
            · clear hd
              simp only [Par.GivesV]
              go_simp
              all_goals exact ⟨rfl, Below.refl _ _⟩
            · have d10 := hd 10 (by decide) (by kernel_rfl)
              replace d10 : vs 10 = (Value.pointer (some ⟨S, 1, none⟩)) := d10
              have k := nd_cell (heap_on hK HK.out.2.2.box) 1
              clear hd
              simp only [Par.GivesV, d10]
              go_simp
              all_goals exact ⟨rfl, Below.refl _ _⟩
            · clear hd
              simp only [Par.GivesV]
              go_simp
              all_goals exact ⟨rfl, Below.refl _ _⟩
            · have d11 := hd 11 (by decide) (by kernel_rfl)
              replace d11 : vs 11 = (.slice (some ⟨g, 0, none⟩) (i + 1) cap) := d11
              have d12 := hd 12 (by decide) (by kernel_rfl)
              replace d12 : vs 12 = (.int .i64 i) := d12
              clear hd
              simp only [Par.GivesV, d11, d12]
              go_simp
              all_goals exact ⟨rfl, Below.refl _ _⟩
            · have d13 := hd 13 (by decide) (by kernel_rfl)
              replace d13 : vs 13 = (Value.pointer (some ⟨g, i * 4, none⟩)) := d13
              clear hd
              simp only [Par.GivesV, d13]
              go_simp
              all_goals exact ⟨rfl, Below.refl _ _⟩
            · have d14 := hd 14 (by decide) (by kernel_rfl)
              replace d14 : vs 14 = (Value.pointer (some ⟨g, i * 4, none⟩)) := d14
              have k := (HQ.out w hK).2
              clear hd
              simp only [Par.GivesV, d14]
              go_simp
              all_goals exact ⟨rfl, Below.refl _ _⟩
            · have d9 := hd 9 (by decide) (by kernel_rfl)
              have d15 := hd 15 (by decide) (by kernel_rfl)
              replace d15 : vs 15 = (.string sx) := d15
              obtain ⟨g9, hg9, d9, hx9⟩ := d9
              replace d9 : vs 9 = .slice (some ⟨g9, 0, none⟩) 1 1 := d9
              clear hd
              simp only [Par.GivesV, d15, d9]
              go_simp
              exact ⟨⟨g9, hg9, rfl, hx9⟩, Below.refl _ _⟩
            · have d16 := hd 16 (by decide) (by kernel_rfl)
              obtain ⟨g16, hg16, d16, hx16⟩ := d16
              replace d16 : vs 16 = .agg #[.slice (some ⟨g16, 0, none⟩) 1 1, .string sx] := d16
              clear hd
              simp only [Par.GivesV, d16]
              go_simp
              exact ⟨⟨_, g16, hg16, rfl, heap_alloc_new w _, heap_on (below_alloc w _) hx16⟩, below_alloc w _⟩
          case hT1 =>
            intro vs w' hK hV
            simp only [List.drop_succ_cons, List.drop_zero]
            have d0 := hV 0 (by decide)
            replace d0 : vs 0 = (Value.pointer (some ⟨S, 3, none⟩)) := d0
            have d1 := hV 1 (by decide)
            replace d1 : vs 1 = (.slice pd k cd) := d1
            have d2 := hV 2 (by decide)
            replace d2 : vs 2 = (Value.pointer (some ⟨S, 1, none⟩)) := d2
            have d3 := hV 3 (by decide)
            replace d3 : vs 3 = (.slice (some ⟨g, 0, none⟩) (i + 1) cap) := d3
            have d4 := hV 4 (by decide)
            replace d4 : vs 4 = (.int .i64 i) := d4
            have d5 := hV 5 (by decide)
            replace d5 : vs 5 = (.int .i64 k) := d5
            have d6 := hV 6 (by decide)
            replace d6 : vs 6 = (Value.pointer (some ⟨g, k * 4, none⟩)) := d6
            have d7 := hV 7 (by decide)
            replace d7 : vs 7 = (Value.pointer (some ⟨g, k * 4, none⟩)) := d7
            have d8 := hV 8 (by decide)
            replace d8 : vs 8 = (.string ux) := d8
            have d9 := hV 9 (by decide)
            have d10 := hV 10 (by decide)
            replace d10 : vs 10 = (Value.pointer (some ⟨S, 1, none⟩)) := d10
            have d11 := hV 11 (by decide)
            replace d11 : vs 11 = (.slice (some ⟨g, 0, none⟩) (i + 1) cap) := d11
            have d12 := hV 12 (by decide)
            replace d12 : vs 12 = (.int .i64 i) := d12
            have d13 := hV 13 (by decide)
            replace d13 : vs 13 = (Value.pointer (some ⟨g, i * 4, none⟩)) := d13
            have d14 := hV 14 (by decide)
            replace d14 : vs 14 = (Value.pointer (some ⟨g, i * 4, none⟩)) := d14
            have d15 := hV 15 (by decide)
            replace d15 : vs 15 = (.string sx) := d15
            have d16 := hV 16 (by decide)
            have d17 := hV 17 (by decide)
            clear hV
            simp only [d0, d1, d2, d3, d4, d5, d6, d7, d8, d10, d11, d12, d13, d14, d15]
            clear d0 d1 d2 d3 d4 d5 d6 d7 d8 d10 d11 d12 d13 d14 d15
            obtain ⟨G, gl, hgl, d17, hG, hx⟩ := d17
            replace d17 : vs 17 = .slice (some ⟨G, 0, none⟩) 1 1 := d17
            rw [d17]
            clear d9 d16 d17
            generalize vs 9 = v9
            generalize vs 16 = v16
            have h6 := HK.out.2.2.on hK
            have hdd := h6.d.d
            rw [depsN_len] at hdd
            obtain ⟨g7, cap7, w7, hrun, hr7, hg7, _⟩ := app_dat hdd (by omega) h6.sz hG
            have e7 : cN (k + 1) = sx := by rw [← HK.out.1]; exact HSX.out
            obtain ⟨hx7, hC7⟩ := h6.dep (word_own hgl (by rw [HK.out.2.1]; exact hx)) (by rw [e7]; exact hr7) hg7
            have y3 := nd_cell hx7 3
            have yf := frozen_of_row w7 S 3 _ _ hx7
            have yl := lt_of_heap hx7
            have H7 := Lib.hid hC7
            clear e7 hgl hG hx h6 hdd hr7 hg7 hx7 hC7 hK hwa hi2 q1 q2 q3 q4
            go_wp2_with (at_builtin; refine wpList_append_run rfl (.tmp 59) (.tmp 75) 42 rfl rfl rfl hrun ?_)
            go_roundg (n - i)
            case measure => omega
            case rel => exact ⟨i + 1, _, _, _, by go_num, by omega, by omega, by rw [show i + 1 - 1 = k + 1 by have := HK.out.1; omega]; exact H7.out⟩
      · obtain rfl : i = n := by omega
        go_wp2_with fail
        go_meet
        exact ⟨_, _, ps, HC.out⟩
  case rest =>
    obtain ⟨cv, dv, ps, hC⟩ := hcut
    obtain ⟨w2, rfl⟩ : ∃ x, x = wc := ⟨_, rfl⟩
    obtain ⟨pc, cc, rfl, _, hcm⟩ := hC.c.isslice
    obtain ⟨pd, cd, ed, _, _⟩ := hC.d.d.isslice
    rw [depsN_len] at ed
    subst ed
    obtain ⟨gc, cc2, e1, _, _⟩ := hC.c.slice (by omega)
    obtain ⟨rfl, -, rfl⟩ := Value.slice.inj e1
    have z0 := nd_cell hC.box 0
    have z1 := nd_cell hC.box 1
    have z2 := nd_cell hC.box 2
    have z3 := nd_cell hC.box 3
    have zl := lt_of_heap hC.box
    have hb1 := below_alloc w2 (.cells #[.string zT, .slice (some ⟨gc, 0, none⟩) n cc, .string e0, .slice pd (n - 1) cd] 44)
    have hx1 := heap_alloc_new w2 (.cells #[.string zT, .slice (some ⟨gc, 0, none⟩) n cc, .string e0, .slice pd (n - 1) cd] 44)
    have hrd : RdTs (w2.alloc (.cells #[.string zT, .slice (some ⟨gc, 0, none⟩) n cc, .string e0, .slice pd (n - 1) cd] 44)) (.slice (some ⟨w2.heap.size, 0, none⟩) 1 1) [tabN n] := by
      refine ⟨_, 1, [.string zT, .slice (some ⟨gc, 0, none⟩) n cc, .string e0, .slice pd (n - 1) cd], rfl, Nat.le_refl _, by decide, fun _ => ⟨w2.heap.size, 0, rfl, lt_of_heap hx1, fun j u hj => ?_⟩, rfl, fun j hj => ?_⟩
      · rw [nd_cell hx1, Nat.zero_add, List.getElem?_toArray]; exact hj
      · match j, hj with
        | 0, _ => exact ⟨_, _, rfl, rfl, rfl, rfl, (hC.on hb1).rd⟩
        | j + 1, hj => exact absurd hj (by simp)
    have hboth := both_is hrd (sm_N n) (show 1 ≤ 1000 by decide) (kept_N HNN.out.1 HNN.out.2.1)
    have HB := Lib.hid (And.intro (hC.on hb1) (below_on H0.out ((HS.out ▸ hC.below : Below w0.heap.size w0 w2).trans (hb1.mono (by have := hC.sz; have := HS.out; omega)))))
    clear e1 hb1 hx1 hrd hC
    go_upto_region 14 with (go_at_call 8; (with_reducible refine hboth.mono ?_); rintro e w3 ⟨SS, p3, n3, c3, rfl, hn3, hK⟩; have K3 := Lib.hid (And.intro (hK.mono HB.out.2) (HB.out.1.on hK.below)); clear hn3 hK hboth z0 z1 z2 z3 zl)
    have hfl : f < (colsN n).length := by rw [colsN_len]; exact rf
    have htl : t < (colsN n).length := by rw [colsN_len]; exact rt
    have cf := (cellsC_at (colsN n) f hfl).1
    have ct := (cellsC_at (colsN n) t htl).1
    rw [colsN_at] at cf ct
    have hcf := K3.out.2.c.cell cf
    have hct := K3.out.2.c.cell ct
    obtain ⟨xf, hxf⟩ : ∃ s, cN f = s := ⟨_, rfl⟩
    obtain ⟨xt, hxt⟩ : ∃ s, cN t = s := ⟨_, rfl⟩
    rw [show (colN f).nm = xf from hxf] at hcf
    rw [show (colN t).nm = xt from hxt] at hct
    obtain ⟨z, hz⟩ : ∃ z, decide (f ≤ t) = z := ⟨_, rfl⟩
    obtain ⟨nf, hnf⟩ : ∃ x, n - f = x := ⟨_, rfl⟩
    have hnf2 : (n : Int) - (f : Int) = (nf : Int) := by omega
    have hwn : IntKind.i64.wrap (nf : Int) = (nf : Int) := by rw [IntKind.wrap_i64]; omega
    have hfn : (f : Int) < (n : Int) := by omega
    have htn : (t : Int) < (n : Int) := by omega
    have HQ : Hid (∀ w, Below w3.heap.size w3 w → w.cell? ⟨gc, f * 4, none⟩ = some (.string xf) ∧ w.cell? ⟨gc, t * 4, none⟩ = some (.string xt)) := Lib.hid (fun w hb => ⟨bel_cell hb hcf, bel_cell hb hct⟩)
    have HD : Hid (∀ w G g g2, Below w3.heap.size w3 w → w.heap[G]? = some (.cells #[.slice (some ⟨g, 0, none⟩) 1 1] 34) → w.heap[g]? = some (.cells #[.string xf] 9) → w.heap[g2]? = some (.cells #[.string xt] 9) → Calls Try.prog 12 #[(Value.pointer (some ⟨SS, 0, none⟩)), .string zT, .slice (some ⟨G, 0, none⟩) 1 1, .slice (some ⟨g2, 0, none⟩) 1 1] w fun e w' => e = .returned (.bool z) ∧ Below w.heap.size w w') := Lib.hid (fun w G g g2 hb hG hx hx2 =>
      kdet_any (few_N HNN.out.1 HNN.out.2.1) (fine_N HNN.out.1 HNN.out.2.1) (K3.out.1.on hb).sch (RdW.lit hG (Wd.lit hx)) (Wd.lit hx2) (cl_by (fine_N HNN.out.1 HNN.out.2.1) (all_N HNN.out.1 HNN.out.2.1) (by rw [← hxf, ← hxt, ← hz]; exact cl_N n HNN.out.1 HNN.out.2.1 f HNN.out.2.2.1 t HNN.out.2.2.2)))
    have HL : Hid (∀ w G g, Below w3.heap.size w3 w → w.heap[G]? = some (.cells #[.slice (some ⟨g, 0, none⟩) 1 1] 34) → w.heap[g]? = some (.cells #[.string xf] 9) → Calls Try.prog 10 #[(Value.pointer (some ⟨SS, 0, none⟩)), .string zT, .slice (some ⟨G, 0, none⟩) 1 1] w fun e w' => ∃ p c, e = .returned (.slice p nf c) ∧ Below w.heap.size w w') := Lib.hid (fun w G g hb hG hx =>
      clos_len (few_N HNN.out.1 HNN.out.2.1) (fine_N HNN.out.1 HNN.out.2.1) (K3.out.1.on hb).sch (all_N HNN.out.1 HNN.out.2.1) (RdW.lit hG (Wd.lit hx)) (by rw [← hxf, ← hnf]; exact len_N n HNN.out.1 HNN.out.2.1 f HNN.out.2.2.1))
    have HZ := Lib.hid hz
    clear hfl htl cf ct hcf hct hxf hxt hz hnf
    refine Par.wp_region_par2 39 (fun w => Below w3.heap.size w3 w) (Par.VL [(.eq (Value.pointer (some ⟨SS, 0, none⟩))), (.eq (Value.pointer (some ⟨S, 1, none⟩))), (.eq (.slice (some ⟨gc, 0, none⟩) n cc)), (.eq (.int .i64 f)), (.eq (Value.pointer (some ⟨gc, f * 4, none⟩))), (.eq (Value.pointer (some ⟨gc, f * 4, none⟩))), (.eq (.string xf)), (.obj (fun g => .slice (some ⟨g, 0, none⟩) 1 1) (.cells #[.string xf] 9)), ((rwV xf)), (.eq (Value.pointer (some ⟨S, 1, none⟩))), (.eq (.slice (some ⟨gc, 0, none⟩) n cc)), (.eq (.int .i64 t)), (.eq (Value.pointer (some ⟨gc, t * 4, none⟩))), (.eq (Value.pointer (some ⟨gc, t * 4, none⟩))), (.eq (.string xt)), (.obj (fun g => .slice (some ⟨g, 0, none⟩) 1 1) (.cells #[.string xt] 9)), (.eq (.bool z)), (.eq (.int .i64 f)), (.eq (.int .i64 t)), (.eq (.bool z)), (.eq (.bool true)), (.eq (.bool true)), (.eq (Value.pointer (some ⟨SS, 0, none⟩))), (.eq (Value.pointer (some ⟨S, 1, none⟩))), (.eq (.slice (some ⟨gc, 0, none⟩) n cc)), (.eq (.int .i64 f)), (.eq (Value.pointer (some ⟨gc, f * 4, none⟩))), (.eq (Value.pointer (some ⟨gc, f * 4, none⟩))), (.eq (.string xf)), (.obj (fun g => .slice (some ⟨g, 0, none⟩) 1 1) (.cells #[.string xf] 9)), ((rwV xf)), ((lnV nf)), (.eq (.int .i64 nf)), (.eq (.int .i64 n)), (.eq (.int .i64 f)), (.eq (.int .i64 nf)), (.eq (.bool true)), (.eq (.bool true)), (.eq (.bool true))]) ?A2 ?hm2 ?hB2 (fun w w' h hb => below_on h hb) (Par.VL.mono _) ?hA2 ((below_drew w3)) ?hop2 ?hT2
    case hm2 => kernel_rfl
    case hB2 => kernel_rfl
    case hA2 =>
      intro vs
      simp only [Par.putA, Par.dstAt, Act.put, List.getElem?_toArray, List.getElem?_cons_zero, List.getElem?_cons_succ, Option.bind_some, List.setIfInBounds_toArray, List.set_cons_zero, List.set_cons_succ]
      rfl
    case hop2 =>
      simp only [List.take_succ_cons, List.take_zero, Par.GiveAllV, and_true]
      refine ⟨fun vs w hK hd => ?_, fun vs w hK hd => ?_, fun vs w hK hd => ?_, fun vs w hK hd => ?_, fun vs w hK hd => ?_, fun vs w hK hd => ?_, fun vs w hK hd => ?_, fun vs w hK hd => ?_, fun vs w hK hd => ?_, fun vs w hK hd => ?_, fun vs w hK hd => ?_, fun vs w hK hd => ?_, fun vs w hK hd => ?_, fun vs w hK hd => ?_, fun vs w hK hd => ?_, fun vs w hK hd => ?_, fun vs w hK hd => ?_, fun vs w hK hd => ?_, fun vs w hK hd => ?_, fun vs w hK hd => ?_, fun vs w hK hd => ?_, fun vs w hK hd => ?_, fun vs w hK hd => ?_, fun vs w hK hd => ?_, fun vs w hK hd => ?_, fun vs w hK hd => ?_, fun vs w hK hd => ?_, fun vs w hK hd => ?_, fun vs w hK hd => ?_, fun vs w hK hd => ?_, fun vs w hK hd => ?_, fun vs w hK hd => ?_, fun vs w hK hd => ?_, fun vs w hK hd => ?_, fun vs w hK hd => ?_, fun vs w hK hd => ?_, fun vs w hK hd => ?_, fun vs w hK hd => ?_, fun vs w hK hd => ?_⟩
      · clear hd
        simp only [Par.GivesV]
        go_simp
        all_goals exact ⟨rfl, Below.refl _ _⟩
      · clear hd
        simp only [Par.GivesV]
        go_simp
        all_goals exact ⟨rfl, Below.refl _ _⟩
      · have d1 := hd 1 (by decide) (by kernel_rfl)
        replace d1 : vs 1 = (Value.pointer (some ⟨S, 1, none⟩)) := d1
        have k := nd_cell (heap_on hK K3.out.2.box) 1
        clear hd
        simp only [Par.GivesV, d1]
        go_simp
        all_goals exact ⟨rfl, Below.refl _ _⟩
      · clear hd
        simp only [Par.GivesV]
        go_simp
        all_goals exact ⟨rfl, Below.refl _ _⟩
      · have d2 := hd 2 (by decide) (by kernel_rfl)
        replace d2 : vs 2 = (.slice (some ⟨gc, 0, none⟩) n cc) := d2
        have d3 := hd 3 (by decide) (by kernel_rfl)
        replace d3 : vs 3 = (.int .i64 f) := d3
        clear hd
        simp only [Par.GivesV, d2, d3]
        go_simp
        all_goals exact ⟨rfl, Below.refl _ _⟩
      · have d4 := hd 4 (by decide) (by kernel_rfl)
        replace d4 : vs 4 = (Value.pointer (some ⟨gc, f * 4, none⟩)) := d4
        clear hd
        simp only [Par.GivesV, d4]
        go_simp
        all_goals exact ⟨rfl, Below.refl _ _⟩
      · have d5 := hd 5 (by decide) (by kernel_rfl)
        replace d5 : vs 5 = (Value.pointer (some ⟨gc, f * 4, none⟩)) := d5
        have k := (HQ.out w hK).1
        clear hd
        simp only [Par.GivesV, d5]
        go_simp
        all_goals exact ⟨rfl, Below.refl _ _⟩
      · have d6 := hd 6 (by decide) (by kernel_rfl)
        replace d6 : vs 6 = (.string xf) := d6
        clear hd
        simp only [Par.GivesV, d6]
        go_simp
        exact ⟨⟨_, rfl, heap_alloc_new w _⟩, below_alloc w _⟩
      · have d7 := hd 7 (by decide) (by kernel_rfl)
        obtain ⟨g7, d7, hx7⟩ := d7
        replace d7 : vs 7 = .slice (some ⟨g7, 0, none⟩) 1 1 := d7
        clear hd
        simp only [Par.GivesV, d7]
        go_simp
        exact ⟨⟨_, g7, rfl, heap_alloc_new w _, heap_on (below_alloc w _) hx7⟩, below_alloc w _⟩
      · clear hd
        simp only [Par.GivesV]
        go_simp
        all_goals exact ⟨rfl, Below.refl _ _⟩
      · have d9 := hd 9 (by decide) (by kernel_rfl)
        replace d9 : vs 9 = (Value.pointer (some ⟨S, 1, none⟩)) := d9
        have k := nd_cell (heap_on hK K3.out.2.box) 1
        clear hd
        simp only [Par.GivesV, d9]
        go_simp
        all_goals exact ⟨rfl, Below.refl _ _⟩
      · clear hd
        simp only [Par.GivesV]
        go_simp
        all_goals exact ⟨rfl, Below.refl _ _⟩
      · have d10 := hd 10 (by decide) (by kernel_rfl)
        replace d10 : vs 10 = (.slice (some ⟨gc, 0, none⟩) n cc) := d10
        have d11 := hd 11 (by decide) (by kernel_rfl)
        replace d11 : vs 11 = (.int .i64 t) := d11
        clear hd
        simp only [Par.GivesV, d10, d11]
        go_simp
        all_goals exact ⟨rfl, Below.refl _ _⟩
      · have d12 := hd 12 (by decide) (by kernel_rfl)
        replace d12 : vs 12 = (Value.pointer (some ⟨gc, t * 4, none⟩)) := d12
        clear hd
        simp only [Par.GivesV, d12]
        go_simp
        all_goals exact ⟨rfl, Below.refl _ _⟩
      · have d13 := hd 13 (by decide) (by kernel_rfl)
        replace d13 : vs 13 = (Value.pointer (some ⟨gc, t * 4, none⟩)) := d13
        have k := (HQ.out w hK).2
        clear hd
        simp only [Par.GivesV, d13]
        go_simp
        all_goals exact ⟨rfl, Below.refl _ _⟩
      · have d14 := hd 14 (by decide) (by kernel_rfl)
        replace d14 : vs 14 = (.string xt) := d14
        clear hd
        simp only [Par.GivesV, d14]
        go_simp
        exact ⟨⟨_, rfl, heap_alloc_new w _⟩, below_alloc w _⟩
      · have d0 := hd 0 (by decide) (by kernel_rfl)
        replace d0 : vs 0 = (Value.pointer (some ⟨SS, 0, none⟩)) := d0
        have d8 := hd 8 (by decide) (by kernel_rfl)
        have d15 := hd 15 (by decide) (by kernel_rfl)
        obtain ⟨G8, g8, d8, hG8, hx8⟩ := d8
        replace d8 : vs 8 = .slice (some ⟨G8, 0, none⟩) 1 1 := d8
        obtain ⟨g15, d15, hx15⟩ := d15
        replace d15 : vs 15 = .slice (some ⟨g15, 0, none⟩) 1 1 := d15
        clear hd
        simp only [Par.GivesV, d0, d8, d15]
        go_simp
        exact (HD.out w G8 g8 g15 hK hG8 hx8 hx15).mono (fun e w'' h => ⟨_, h.1, ⟨rfl, h.2⟩⟩)
      · clear hd
        simp only [Par.GivesV]
        go_simp
        all_goals exact ⟨rfl, Below.refl _ _⟩
      · clear hd
        simp only [Par.GivesV]
        go_simp
        all_goals exact ⟨rfl, Below.refl _ _⟩
      · have d17 := hd 17 (by decide) (by kernel_rfl)
        replace d17 : vs 17 = (.int .i64 f) := d17
        have d18 := hd 18 (by decide) (by kernel_rfl)
        replace d18 : vs 18 = (.int .i64 t) := d18
        skip
        clear hd
        simp only [Par.GivesV, d17, d18]
        go_simp
        all_goals exact ⟨congrArg Value.bool HZ.out, Below.refl _ _⟩
      · have d16 := hd 16 (by decide) (by kernel_rfl)
        replace d16 : vs 16 = (.bool z) := d16
        have d19 := hd 19 (by decide) (by kernel_rfl)
        replace d19 : vs 19 = (.bool z) := d19
        clear hd
        simp only [Par.GivesV, d16, d19]
        go_simp
        all_goals exact ⟨rfl, Below.refl _ _⟩
      · have d20 := hd 20 (by decide) (by kernel_rfl)
        replace d20 : vs 20 = (.bool true) := d20
        clear hd
        simp only [Par.GivesV, d20]
        go_simp
        all_goals exact ⟨rfl, Below.refl _ _⟩
      · have d21 := hd 21 (by decide) (by kernel_rfl)
        replace d21 : vs 21 = (.bool true) := d21
        clear hd
        simp only [Par.GivesV, d21]
        go_simp
        all_goals exact ⟨rfl, Below.refl _ _⟩
      · have d21 := hd 21 (by decide) (by kernel_rfl)
        replace d21 : vs 21 = (.bool true) := d21
        clear hd
        simp only [Par.GivesV, d21]
        go_simp
        all_goals exact ⟨rfl, Below.refl _ _⟩
      · have d21 := hd 21 (by decide) (by kernel_rfl)
        replace d21 : vs 21 = (.bool true) := d21
        have d23 := hd 23 (by decide) (by kernel_rfl)
        replace d23 : vs 23 = (Value.pointer (some ⟨S, 1, none⟩)) := d23
        have k := nd_cell (heap_on hK K3.out.2.box) 1
        clear hd
        simp only [Par.GivesV, d21, d23]
        go_simp
        all_goals exact ⟨rfl, Below.refl _ _⟩
      · have d21 := hd 21 (by decide) (by kernel_rfl)
        replace d21 : vs 21 = (.bool true) := d21
        clear hd
        simp only [Par.GivesV, d21]
        go_simp
        all_goals exact ⟨rfl, Below.refl _ _⟩
      · have d21 := hd 21 (by decide) (by kernel_rfl)
        replace d21 : vs 21 = (.bool true) := d21
        have d24 := hd 24 (by decide) (by kernel_rfl)
        replace d24 : vs 24 = (.slice (some ⟨gc, 0, none⟩) n cc) := d24
        have d25 := hd 25 (by decide) (by kernel_rfl)
        replace d25 : vs 25 = (.int .i64 f) := d25
        clear hd
        simp only [Par.GivesV, d21, d24, d25]
        go_simp
        all_goals exact ⟨rfl, Below.refl _ _⟩
      · have d21 := hd 21 (by decide) (by kernel_rfl)
        replace d21 : vs 21 = (.bool true) := d21
        have d26 := hd 26 (by decide) (by kernel_rfl)
        replace d26 : vs 26 = (Value.pointer (some ⟨gc, f * 4, none⟩)) := d26
        clear hd
        simp only [Par.GivesV, d21, d26]
        go_simp
        all_goals exact ⟨rfl, Below.refl _ _⟩
      · have d21 := hd 21 (by decide) (by kernel_rfl)
        replace d21 : vs 21 = (.bool true) := d21
        have d27 := hd 27 (by decide) (by kernel_rfl)
        replace d27 : vs 27 = (Value.pointer (some ⟨gc, f * 4, none⟩)) := d27
        have k := (HQ.out w hK).1
        clear hd
        simp only [Par.GivesV, d21, d27]
        go_simp
        all_goals exact ⟨rfl, Below.refl _ _⟩
      · have d21 := hd 21 (by decide) (by kernel_rfl)
        replace d21 : vs 21 = (.bool true) := d21
        have d28 := hd 28 (by decide) (by kernel_rfl)
        replace d28 : vs 28 = (.string xf) := d28
        clear hd
        simp only [Par.GivesV, d21, d28]
        go_simp
        exact ⟨⟨_, rfl, heap_alloc_new w _⟩, below_alloc w _⟩
      · have d21 := hd 21 (by decide) (by kernel_rfl)
        replace d21 : vs 21 = (.bool true) := d21
        have d29 := hd 29 (by decide) (by kernel_rfl)
        obtain ⟨g29, d29, hx29⟩ := d29
        replace d29 : vs 29 = .slice (some ⟨g29, 0, none⟩) 1 1 := d29
        clear hd
        simp only [Par.GivesV, d21, d29]
        go_simp
        exact ⟨⟨_, g29, rfl, heap_alloc_new w _, heap_on (below_alloc w _) hx29⟩, below_alloc w _⟩
      · have d21 := hd 21 (by decide) (by kernel_rfl)
        replace d21 : vs 21 = (.bool true) := d21
        have d22 := hd 22 (by decide) (by kernel_rfl)
        replace d22 : vs 22 = (Value.pointer (some ⟨SS, 0, none⟩)) := d22
        have d30 := hd 30 (by decide) (by kernel_rfl)
        obtain ⟨G30, g30, d30, hG30, hx30⟩ := d30
        replace d30 : vs 30 = .slice (some ⟨G30, 0, none⟩) 1 1 := d30
        clear hd
        simp only [Par.GivesV, d21, d22, d30]
        go_simp
        exact (HL.out w G30 g30 hK hG30 hx30).mono (fun e w'' ⟨p, c, h1, h2⟩ => ⟨_, h1, ⟨⟨p, c, rfl⟩, h2⟩⟩)
      · have d21 := hd 21 (by decide) (by kernel_rfl)
        replace d21 : vs 21 = (.bool true) := d21
        have d31 := hd 31 (by decide) (by kernel_rfl)
        obtain ⟨p31, c31, d31⟩ := d31
        replace d31 : vs 31 = .slice p31 nf c31 := d31
        clear hd
        simp only [Par.GivesV, d21, d31]
        go_simp
        all_goals exact ⟨rfl, Below.refl _ _⟩
      · have d21 := hd 21 (by decide) (by kernel_rfl)
        replace d21 : vs 21 = (.bool true) := d21
        clear hd
        simp only [Par.GivesV, d21]
        go_simp
        all_goals exact ⟨rfl, Below.refl _ _⟩
      · have d21 := hd 21 (by decide) (by kernel_rfl)
        replace d21 : vs 21 = (.bool true) := d21
        clear hd
        simp only [Par.GivesV, d21]
        go_simp
        all_goals exact ⟨rfl, Below.refl _ _⟩
      · have d21 := hd 21 (by decide) (by kernel_rfl)
        replace d21 : vs 21 = (.bool true) := d21
        have d33 := hd 33 (by decide) (by kernel_rfl)
        replace d33 : vs 33 = (.int .i64 n) := d33
        have d34 := hd 34 (by decide) (by kernel_rfl)
        replace d34 : vs 34 = (.int .i64 f) := d34
        clear hd
        simp only [Par.GivesV, d21, d33, d34]
        go_simp
        all_goals exact ⟨rfl, Below.refl _ _⟩
      · have d21 := hd 21 (by decide) (by kernel_rfl)
        replace d21 : vs 21 = (.bool true) := d21
        have d32 := hd 32 (by decide) (by kernel_rfl)
        replace d32 : vs 32 = (.int .i64 nf) := d32
        have d35 := hd 35 (by decide) (by kernel_rfl)
        replace d35 : vs 35 = (.int .i64 nf) := d35
        clear hd
        simp only [Par.GivesV, d21, d32, d35]
        go_simp
        all_goals exact ⟨rfl, Below.refl _ _⟩
      · have d21 := hd 21 (by decide) (by kernel_rfl)
        replace d21 : vs 21 = (.bool true) := d21
        have d36 := hd 36 (by decide) (by kernel_rfl)
        replace d36 : vs 36 = (.bool true) := d36
        clear hd
        simp only [Par.GivesV, d21, d36]
        go_simp
        all_goals exact ⟨rfl, Below.refl _ _⟩
      · have d37 := hd 37 (by decide) (by kernel_rfl)
        replace d37 : vs 37 = (.bool true) := d37
        clear hd
        simp only [Par.GivesV, d37]
        go_simp
        all_goals exact ⟨rfl, Below.refl _ _⟩
    case hT2 =>
      intro vs w' hK hV
      simp only [List.drop_succ_cons, List.drop_nil]
      have d0 := hV 0 (by decide)
      replace d0 : vs 0 = (Value.pointer (some ⟨SS, 0, none⟩)) := d0
      have d1 := hV 1 (by decide)
      replace d1 : vs 1 = (Value.pointer (some ⟨S, 1, none⟩)) := d1
      have d2 := hV 2 (by decide)
      replace d2 : vs 2 = (.slice (some ⟨gc, 0, none⟩) n cc) := d2
      have d3 := hV 3 (by decide)
      replace d3 : vs 3 = (.int .i64 f) := d3
      have d4 := hV 4 (by decide)
      replace d4 : vs 4 = (Value.pointer (some ⟨gc, f * 4, none⟩)) := d4
      have d5 := hV 5 (by decide)
      replace d5 : vs 5 = (Value.pointer (some ⟨gc, f * 4, none⟩)) := d5
      have d6 := hV 6 (by decide)
      replace d6 : vs 6 = (.string xf) := d6
      have d7 := hV 7 (by decide)
      have d8 := hV 8 (by decide)
      have d9 := hV 9 (by decide)
      replace d9 : vs 9 = (Value.pointer (some ⟨S, 1, none⟩)) := d9
      have d10 := hV 10 (by decide)
      replace d10 : vs 10 = (.slice (some ⟨gc, 0, none⟩) n cc) := d10
      have d11 := hV 11 (by decide)
      replace d11 : vs 11 = (.int .i64 t) := d11
      have d12 := hV 12 (by decide)
      replace d12 : vs 12 = (Value.pointer (some ⟨gc, t * 4, none⟩)) := d12
      have d13 := hV 13 (by decide)
      replace d13 : vs 13 = (Value.pointer (some ⟨gc, t * 4, none⟩)) := d13
      have d14 := hV 14 (by decide)
      replace d14 : vs 14 = (.string xt) := d14
      have d15 := hV 15 (by decide)
      have d16 := hV 16 (by decide)
      replace d16 : vs 16 = (.bool z) := d16
      have d17 := hV 17 (by decide)
      replace d17 : vs 17 = (.int .i64 f) := d17
      have d18 := hV 18 (by decide)
      replace d18 : vs 18 = (.int .i64 t) := d18
      have d19 := hV 19 (by decide)
      replace d19 : vs 19 = (.bool z) := d19
      have d20 := hV 20 (by decide)
      replace d20 : vs 20 = (.bool true) := d20
      have d21 := hV 21 (by decide)
      replace d21 : vs 21 = (.bool true) := d21
      have d22 := hV 22 (by decide)
      replace d22 : vs 22 = (Value.pointer (some ⟨SS, 0, none⟩)) := d22
      have d23 := hV 23 (by decide)
      replace d23 : vs 23 = (Value.pointer (some ⟨S, 1, none⟩)) := d23
      have d24 := hV 24 (by decide)
      replace d24 : vs 24 = (.slice (some ⟨gc, 0, none⟩) n cc) := d24
      have d25 := hV 25 (by decide)
      replace d25 : vs 25 = (.int .i64 f) := d25
      have d26 := hV 26 (by decide)
      replace d26 : vs 26 = (Value.pointer (some ⟨gc, f * 4, none⟩)) := d26
      have d27 := hV 27 (by decide)
      replace d27 : vs 27 = (Value.pointer (some ⟨gc, f * 4, none⟩)) := d27
      have d28 := hV 28 (by decide)
      replace d28 : vs 28 = (.string xf) := d28
      have d29 := hV 29 (by decide)
      have d30 := hV 30 (by decide)
      have d31 := hV 31 (by decide)
      have d32 := hV 32 (by decide)
      replace d32 : vs 32 = (.int .i64 nf) := d32
      have d33 := hV 33 (by decide)
      replace d33 : vs 33 = (.int .i64 n) := d33
      have d34 := hV 34 (by decide)
      replace d34 : vs 34 = (.int .i64 f) := d34
      have d35 := hV 35 (by decide)
      replace d35 : vs 35 = (.int .i64 nf) := d35
      have d36 := hV 36 (by decide)
      replace d36 : vs 36 = (.bool true) := d36
      have d37 := hV 37 (by decide)
      replace d37 : vs 37 = (.bool true) := d37
      have d38 := hV 38 (by decide)
      replace d38 : vs 38 = (.bool true) := d38
      clear hV
      simp only [d0, d1, d2, d3, d4, d5, d6, d9, d10, d11, d12, d13, d14, d16, d17, d18, d19, d20, d21, d22, d23, d24, d25, d26, d27, d28, d32, d33, d34, d35, d36, d37, d38]
      clear d0 d1 d2 d3 d4 d5 d6 d9 d10 d11 d12 d13 d14 d16 d17 d18 d19 d20 d21 d22 d23 d24 d25 d26 d27 d28 d32 d33 d34 d35 d36 d37 d38
      clear d7 d8 d15 d29 d30 d31
      have HF := Lib.hid (K3.out.1.on hK).below
      clear hK
      generalize vs 7 = v7
      generalize vs 8 = v8
      generalize vs 15 = v15
      generalize vs 29 = v29
      generalize vs 30 = v30
      generalize vs 31 = v31
      go_wp2_with fail
      go_ret
      exact ⟨rfl, HF.out⟩
end Go.Proofs.Ytmfkkpogmmoflaa
