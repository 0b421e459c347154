/- ColumnAll: the walk. -/
import Derived.Test.YtglfmbpcapendaaN3a
import Derived.Deep.CutBlock
import Derived.Deep.CutRange
import Derived.Laws.Cover1
namespace Go.Proofs.Ytglfmbpcapendaa.S
open Go Go.RowKit Go.Shelf Go.Proofs Go.Proofs.Ytglfmbpcapendaa

set_option maxRecDepth 100000 in
set_option maxHeartbeats 4000000 in
theorem call_no (a0 : Int) (h1 : a0 ≠ 1) (h2 : a0 ≠ 2) (p : Option Addr) (len cap : Nat) (a2 : Int) (W : World) :
    Calls Try.prog 3 #[(Value.int .i64 (a0)), .slice p len cap, (Value.int .i64 (a2))] W fun e W' => e = .returned (.bool true) ∧ Below W.heap.size W W' := by
  have hbeg := begun_any W
  have hno := fun y => col_new_no a0 h1 h2 y
  have e1 : (a0 != 1) = true := by simp [h1]
  have e2 : (a0 != 2) = true := by simp [h2]
  go_enter Try.func3, Try.ntmps3
  go_wp2_with (first
    | (go_at_call 6; (with_reducible refine hbeg.mono ?_); rintro e x0 ⟨rfl, b0⟩; clear hbeg)
    | (go_at_call 7; (with_reducible refine (hno _).mono ?_); rintro e x1 ⟨rfl, hx⟩; subst x1; clear hno))
  go_ret
  exact ⟨rfl, b0⟩

set_option maxRecDepth 100000 in
set_option maxHeartbeats 4000000 in
theorem call_yes (kind : Int) (hk : kind = 1 ∨ kind = 2) (p : Option Addr) (xs : List Op5) (len cap : Nat) (at_ : Int) (W : World) (hlen : xs.length = len) (hP : ParO W p xs) :
    Calls Try.prog 3 #[(Value.int .i64 (kind)), .slice p len cap, (Value.int .i64 (at_))] W fun e W' => e = .returned (.bool true) ∧ Below W.heap.size W W' := by
  have hbeg := begun_any W
  have hnew := fun y => col_new kind hk y
  go_enter Try.func3, Try.ntmps3
  go_upto_region 5 with (first
    | (go_at_call 6; (with_reducible refine hbeg.mono ?_); rintro e x0 ⟨rfl, b0⟩; clear hbeg; obtain ⟨cb, hcb⟩ : ∃ cb, x0.heap.size = cb := ⟨_, rfl⟩; have hnew := hnew x0; rw [hcb] at hnew)
    | (go_at_call 7; (with_reducible refine hnew.mono ?_); rintro e x1 ⟨rfl, k1, b1⟩; clear hnew))
  have hWc : W.heap.size ≤ cb := by have := b0.size; omega
  have HZ := Lib.hid (And.intro k1 (b0.trans (b1.mono hWc)))
  clear k1 b0 b1 hcb hnew
  go_cut [32] from 27 to 32 (fun v w => v = .bool false ∧ w = x1)
  case first =>
    rcases hk with rfl | rfl
    · go_wp2_with fail
      go_meet
      exact ⟨rfl, rfl⟩
    · go_wp2_with fail
      go_meet
      exact ⟨rfl, rfl⟩
  case rest =>
    obtain ⟨rfl, rfl⟩ := hcut
    go_upto_block 0 with fail
    go_cut [9] from 300 to 300 (fun lv w => ∃ (l : List T3) (v : Value), l.length ≤ 50 ∧ Col cb kind l v w ∧ HRow w (cb + 1) 28 3 lv l.length (cells3 l) ∧ Apart v lv ∧ Below W.heap.size W w)
    case first =>
      go_wp2_with fail
      go_loopg [9, 10] 51 (fun gh lv iv w => ∃ (l : List T3) (v : Value) (i : Nat), i ≤ 50 ∧ i ≤ len ∧ 51 ≤ i + gh ∧ iv = .int .i64 (i : Int) ∧ l.length ≤ i ∧ Col cb kind l v w ∧ HRow w (cb + 1) 28 3 lv l.length (cells3 l) ∧ Apart v lv ∧ Below W.heap.size W w)
      case atStart => exact ⟨[], _, 0, Nat.zero_le _, Nat.zero_le _, Nat.le_refl _, rfl, Nat.le_refl _, HZ.out.1, HRow.nil, Apart.nil _, HZ.out.2⟩
      case round =>
        clear HZ
        obtain ⟨l, v, i, hi50, hil, hig, rfl, hli, hC, hR, hA, hB⟩ := hrel
        by_cases hlt : i < len ∧ i < 50
        · obtain ⟨h1, h2⟩ := hlt
          have hd50 : (i : Int) < 50 := by omega
          obtain ⟨b, off, rfl, hbW, hc0, hc1, hc2, hc3, hc4, hsz⟩ := hP i (by omega)
          obtain ⟨⟨kd, at1, ⟨vk, vn, vs⟩⟩, hop⟩ : ∃ o : Op5, xs[i] = o := ⟨xs[i], rfl⟩
          rw [hop] at hc0 hc1 hc2 hc3 hc4 hsz
          dsimp only at hc0 hc1 hc2 hc3 hc4 hsz
          have hup : ∀ w, Below W.heap.size W w → ∀ q v, W.cell? ⟨b, q, none⟩ = some v → w.cell? ⟨b, q, none⟩ = some v := fun w hw q v h => by
            rw [hw.cell (p := ⟨b, q, none⟩) hbW]; exact h
          have g2 := hup wr hB _ _ hc2
          have g3 := hup wr hB _ _ hc3
          have g4 := hup wr hB _ _ hc4
          have hval := fun y => val_any vk vn vs y hsz
          obtain ⟨s, hs⟩ : ∃ s, cutB 20 vs = s := ⟨_, rfl⟩
          have hss : s.size ≤ maxLen := by rw [← hs]; exact Nat.le_trans (cutB_le 20 vs) (by decide)
          simp only [hs] at hval
          have hmay := fun y => refMay_any vk vn s y hss
          obtain ⟨pl, cl, rfl, hcl, hcm⟩ := hR.isslice
          obtain ⟨n, hn⟩ : ∃ n, l.length = n := ⟨_, rfl⟩
          have HS := Lib.hid (And.intro hup (And.intro hc0 (And.intro hc1 (And.intro hC (And.intro hR (And.intro hA (And.intro hB hn)))))))
          have hsz1 : W.heap.size ≤ wr.heap.size := hB.size
          rw [hn] at hli hcl ⊢
          clear hup hc0 hc1 hc2 hc3 hc4 hsz hs hC hR hA hB hn hop
          go_upto_region 12 with (go_at_call 8; (with_reducible refine (hval _).mono ?_); rintro e y1 ⟨rfl, b1⟩; clear hval)
          have hbx := heap_alloc_new y1 (.cells #[.int .i64 vk, .int .i64 vn, .string s] 28)
          have hb2 := (below_on b1 (below_alloc y1 (.cells #[.int .i64 vk, .int .i64 vn, .string s] 28)))
          obtain ⟨w2, hw2⟩ : ∃ w2, y1.alloc (.cells #[.int .i64 vk, .int .i64 vn, .string s] 28) = w2 := ⟨_, rfl⟩
          obtain ⟨B, hBx⟩ : ∃ B, y1.heap.size = B := ⟨_, rfl⟩
          rw [hw2, hBx] at hbx
          rw [hw2] at hb2
          rw [hw2, hBx]
          have HX := Lib.hid (And.intro hbx hb2)
          have q0 := nd_cell hbx 0
          have q1 := nd_cell hbx 1
          have q2 := nd_cell hbx 2
          have hBl := lt_of_heap hbx
          have hBge : wr.heap.size ≤ B := by have := b1.size; omega
          have HBB := Lib.hid (show B ≠ cb ∧ (∀ q, v.ownBlock = some q → q ≠ B) ∧ (∀ q, Value.ownBlock (.slice pl n cl) = some q → q ≠ B) from by
            obtain ⟨_, _, _, hC, hR, _, _, hn⟩ := HS.out
            rw [hn] at hR
            exact ⟨by have := hC.lt; omega, fun q hq => by have := (hC.row.lt q hq).2; omega, fun q hq => by have := (hR.lt q hq).2; omega⟩)
          clear hw2 hBx b1 y1 hbx hb2 g2 g3 g4 hBge
          have hin : inC kind (vk, vn, s) = (mayV vk vn s.data.toList && (decide (vk = 0) || decide (vk = kind))) := rfl
          obtain ⟨may, hmy⟩ : ∃ may, inC kind (vk, vn, s) = may := ⟨_, rfl⟩
          rw [hmy] at hin
          generalize mayV vk vn s.data.toList = mv at hmay hin
          have HM := Lib.hid hmy
          clear hmy
          go_cut [12] from 51 to 63 (fun u w => u = .bool may ∧ Below w2.heap.size w2 w)
          case first =>
            cases mv with
            | false =>
              simp only [Bool.false_and] at hin
              subst hin
              go_wp2_with (go_at_call 9; (with_reducible refine (hmay _).mono ?_); rintro e y2 ⟨rfl, b2⟩)
              go_meet
              exact ⟨rfl, b2⟩
            | true =>
              simp only [Bool.true_and] at hin
              by_cases h0 : vk = 0
              · have e0 : (vk == 0) = true := by simp [h0]
                obtain rfl : may = true := by rw [hin, decide_eq_true h0, Bool.true_or]
                clear h0 hin
                go_wp2_with (go_at_call 9; (with_reducible refine (hmay _).mono ?_); rintro e y2 ⟨rfl, b2⟩; have r0 := (World.cell?_of_block (a := ⟨B, 0, none⟩) (b2.block B hBl)).trans q0)
                go_meet
                exact ⟨rfl, b2⟩
              · have e0 : (vk == 0) = false := by simp [h0]
                have ek : (vk == kind) = may := by rw [hin, decide_eq_false h0, Bool.false_or, Bool.eq_iff_iff]; simp
                clear h0 hin
                go_wp2_with (go_at_call 9; (with_reducible refine (hmay _).mono ?_); rintro e y2 ⟨rfl, b2⟩; have r0 := (World.cell?_of_block (a := ⟨B, 0, none⟩) (b2.block B hBl)).trans q0)
                go_meet
                exact ⟨rfl, b2⟩
          case rest =>
            obtain ⟨rfl, hbc⟩ := hcut
            clear hmay hin q0 q1 q2
            obtain ⟨hup, hc0, hc1, hC, hR, hA, hB, hn⟩ := HS.out
            obtain ⟨hbx, hb2⟩ := HX.out
            have hbw := below_on hb2 hbc
            have hB2 := hB.trans (hbw.mono hB.size)
            have hC2 := hC.later hbw
            have hR2 : HRow wc (cb + 1) 28 3 (.slice pl n cl) l.length (cells3 l) := by rw [← hn]; exact hR.later hbw
            rw [hn] at hA
            have hbx2 := (hbc.block B hBl).trans hbx
            have k0 := hup wc hB2 _ _ hc0
            have q0 := nd_cell hbx2 0
            have q1 := nd_cell hbx2 1
            have q2 := nd_cell hbx2 2
            have HQ := Lib.hid (And.intro hC2 (And.intro hR2 (And.intro hA (And.intro hB2 (And.intro hbx2 (And.intro (hup wc hB2 _ _ hc1) hn))))))
            clear HS HX hup hc0 hc1 hC hR hA hB hbx hb2 hbc hbw hC2 hR2 hB2 hbx2 hn hBl
            by_cases hk0 : kd = 0
            · have e0 : (kd == 0) = true := by simp [hk0]
              cases may with
              | false =>
                have hap : Calls Try.prog 10 #[(Value.pointer (some ⟨cb, 0, none⟩)), (Value.agg #[Value.int .i64 (vk), Value.int .i64 (vn), Value.string (s)])] wc fun e w' => e = .returned (.bool false) ∧ Below wc.heap.size wc w' := col_app_no HQ.out.1 (vk, vn, s) hss HM.out
                clear hk0
                go_wp2_with (go_at_call 10; (with_reducible refine hap.mono ?_); rintro e y3 ⟨rfl, b3⟩)
                go_roundg (50 - i)
                case measure => omega
                case rel =>
                  obtain ⟨hC, hR, hA, hB, _, _, hn⟩ := HQ.out
                  exact ⟨l, v, i + 1, by omega, by omega, by omega, by simp, by omega, hC.later b3, hR.later b3, hA, hB.trans (b3.mono hB.size)⟩
              | true =>
                have hln : l.length + 1 ≤ 60 := by have := HQ.out.2.2.2.2.2.2; omega
                have hap : Calls Try.prog 10 #[(Value.pointer (some ⟨cb, 0, none⟩)), (Value.agg #[Value.int .i64 (vk), Value.int .i64 (vn), Value.string (s)])] wc fun e w' => e = .returned (.bool true) ∧ ∃ v', Col cb kind (l ++ [(vk, vn, s)]) v' w' ∧ (∀ q, v'.ownBlock = some q → v.ownBlock = some q ∨ wc.heap.size ≤ q) ∧ Chg (fun b => b = cb ∨ v.ownBlock = some b) wc w' := col_app HQ.out.1 hln (vk, vn, s) hss HM.out
                have hav : ∀ y, HRow y (cb + 1) 28 3 (.slice pl n cl) l.length (cells3 l) → cb + 1 ≤ y.heap.size → ∃ g cap w', (Builtin.append_ #[26, 26] 26 #[.slice pl n cl, .slice (some ⟨y.heap.size, 0, none⟩) 1 1]).run Try.prog (y.alloc (.cells #[.int .i64 vk, .int .i64 vn, .string s] 28)) = .ok (.slice (some ⟨g, 0, none⟩) (n + 1) cap) w' ∧
                    HRow w' (cb + 1) 28 3 (.slice (some ⟨g, 0, none⟩) (n + 1) cap) (l ++ [(vk, vn, s)]).length (cells3 (l ++ [(vk, vn, s)])) ∧ y.grownBy w' (Value.slice pl n cl).ownBlock ∧ ((Value.slice pl n cl).ownBlock = some g ∨ y.heap.size ≤ g) := fun y hy hs => by
                  have h := app_val y (cb + 1) hy (by omega) hs (vk, vn, s)
                  rw [HQ.out.2.2.2.2.2.2] at h
                  exact h
                clear hk0
                go_wp2_with (first
                  | (go_at_call 10; (with_reducible refine hap.mono ?_); rintro e y3 ⟨rfl, v2, d2, o2, c2⟩; have bx3 := (c2.block B (lt_of_heap HQ.out.2.2.2.2.1) (fun h => h.elim HBB.out.1 (fun h => HBB.out.2.1 B h rfl))).trans HQ.out.2.2.2.2.1; have t0 := nd_cell bx3 0; have t1 := nd_cell bx3 1; have t2 := nd_cell bx3 2; have r3 := row_beside HQ.out.2.1 HQ.out.2.2.1 c2; obtain ⟨g, cap', y4, hrun, r4, c4, o4⟩ := hav y3 r3 d2.lt; clear hap hav bx3)
                  | (at_builtin; refine wpList_append_run rfl (.tmp 76) (.tmp 78) 26 rfl rfl rfl hrun ?_))
                go_roundg (50 - i)
                case measure => omega
                case rel =>
                  obtain ⟨hC, hR, hA, hB, _, _, hn⟩ := HQ.out
                  have hA2 : Apart v2 (.slice pl n cl) := hA.left o2 (fun q hq => (hR.lt q hq).2)
                  have hb4 : Below W.heap.size W y4 := (hB.trans (hC.below c2 hB.size hWc)).trans (below_row r3 c4 (by omega) (Nat.le_trans hWc (Nat.le_of_lt d2.lt)))
                  exact ⟨l ++ [(vk, vn, s)], v2, i + 1, by omega, by omega, by omega, by simp, by simp; omega, d2.beside r3 (by decide) hA2 (fun k hk => hk) c4, r4, hA2.right (w := y3) (fun q hq => by cases hq; exact o4) (fun q hq => (d2.row.lt q hq).2), hb4⟩
            · have e0 : (kd == 0) = false := by simp [hk0]
              have k1 := HQ.out.2.2.2.2.2.1
              have hBw : B < wc.heap.size := lt_of_heap HQ.out.2.2.2.2.1
              have hbw : b < wc.heap.size := World.block_lt_of_cell? wc ⟨b, off + i * 5 + 1, none⟩ k1
              obtain ⟨m2, hm2⟩ : ∃ m2, (may && decide (0 ≤ at1 ∧ at1 < (n : Int))) = m2 := ⟨_, rfl⟩
              have HM2 := Lib.hid hm2
              clear hk0
              go_upto_region 18 with fail
              go_cut [12] from 80 to 98 (fun u w => u = .bool m2 ∧ w = wc)
              case first =>
                cases may with
                | false =>
                  simp only [Bool.false_and] at hm2
                  subst hm2
                  go_wp2_with fail
                  go_meet
                  exact ⟨rfl, rfl⟩
                | true =>
                  simp only [Bool.true_and] at hm2
                  by_cases h0 : 0 ≤ at1
                  · have d0 : decide (0 ≤ at1) = true := decide_eq_true h0
                    have d1 : decide (at1 < (n : Int)) = m2 := by rw [← hm2, Bool.eq_iff_iff]; simp [h0]
                    clear hm2
                    go_wp2_with fail
                    go_meet
                    exact ⟨rfl, rfl⟩
                  · have d0 : decide (0 ≤ at1) = false := decide_eq_false h0
                    obtain rfl : m2 = false := by rw [← hm2]; exact decide_eq_false (fun h => h0 h.1)
                    clear hm2
                    go_wp2_with fail
                    go_meet
                    exact ⟨rfl, rfl⟩
              case rest =>
                obtain ⟨rfl, hw⟩ := hcut
                subst hw
                cases m2 with
                | false =>
                  have hset := fun y (hy : Below wc.heap.size wc y) => (col_set_no (HQ.out.1.later hy) at1 (vk, vn, s) hss (by
                    have h := HM2.out
                    have hm := HM.out
                    have hn := HQ.out.2.2.2.2.2.2
                    by_cases hin : 0 ≤ at1 ∧ at1 < (l.length : Int)
                    · right
                      rw [hn] at hin
                      rw [decide_eq_true hin, Bool.and_true] at h
                      rw [hm, h]
                    · exact .inl hin) : Calls Try.prog 11 #[(Value.pointer (some ⟨cb, 0, none⟩)), (Value.int .i64 (at1)), (Value.agg #[Value.int .i64 (vk), Value.int .i64 (vn), Value.string (s)])] y fun e w' => e = .returned (.bool false) ∧ Below y.heap.size y w')
                  go_wp2_with fail
                  go_region_held3 (fun w => w.cell? ⟨B, 0, none⟩ = some (.int .i64 vk) ∧ w.cell? ⟨B, 1, none⟩ = some (.int .i64 vn) ∧ w.cell? ⟨B, 2, none⟩ = some (.string s) ∧ w.cell? ⟨b, off + i * 5 + 1, none⟩ = some (Value.int .i64 (at1))) (first | exact ⟨q0, q1, q2, k1⟩ | exact hq3)
                    (first | (go_at_call 11; (with_reducible refine (hset _ (by first | exact (Below.refl _ _).drew | exact below_drewN _ _)).mono ?_); rintro e y3 ⟨rfl, b3⟩; have hq3 : y3.cell? ⟨B, 0, none⟩ = some (.int .i64 vk) ∧ y3.cell? ⟨B, 1, none⟩ = some (.int .i64 vn) ∧ y3.cell? ⟨B, 2, none⟩ = some (.string s) ∧ y3.cell? ⟨b, off + i * 5 + 1, none⟩ = some (Value.int .i64 (at1)) := ⟨(b3.cell (p := ⟨B, 0, none⟩) hBw).trans q0, (b3.cell (p := ⟨B, 1, none⟩) hBw).trans q1, (b3.cell (p := ⟨B, 2, none⟩) hBw).trans q2, (b3.cell (p := ⟨b, off + i * 5 + 1, none⟩) hbw).trans k1⟩; have b4 : Below wc.heap.size wc y3 := by first | exact (Below.refl _ _).drew.trans b3 | exact (below_drewN _ _).trans b3))
                  -- NOT SET
                  go_wp2_with fail
                  go_roundg (50 - i)
                  case measure => omega
                  case rel =>
                    obtain ⟨hC, hR, hA, hB, _, _, hn⟩ := HQ.out
                    exact ⟨l, v, i + 1, by omega, by omega, by omega, by simp, by omega, hC.later b4, hR.later b4, hA, hB.trans (b4.mono hB.size)⟩
                | true =>
                  have hh := HM2.out
                  rw [Bool.and_eq_true, decide_eq_true_eq] at hh
                  obtain ⟨hm1, ha0, han⟩ := hh
                  subst hm1
                  obtain ⟨a, rfl⟩ := Int.eq_ofNat_of_zero_le ha0
                  have hai : a < n := by omega
                  have hll : l.length ≤ 60 := by have := HQ.out.2.2.2.2.2.2; omega
                  have hset : ∀ y (hy : Below wc.heap.size wc y), Calls Try.prog 11 #[(Value.pointer (some ⟨cb, 0, none⟩)), (Value.int .i64 ((a : Int))), (Value.agg #[Value.int .i64 (vk), Value.int .i64 (vn), Value.string (s)])] y fun e w' => e = .returned (.bool true) ∧ Col cb kind (l.set a (vk, vn, s)) v w' ∧ Chg (fun b => b = cb ∨ v.ownBlock = some b) y w' := fun y hy =>
                    col_set (HQ.out.1.later hy) hll a (by have := HQ.out.2.2.2.2.2.2; omega) (vk, vn, s) hss HM.out
                  have hbn : ¬ (b = cb ∨ v.ownBlock = some b) := fun h => h.elim (fun e => by omega) (fun e => by have := (HQ.out.1.row.lt b e).1; omega)
                  have hBn : ¬ (B = cb ∨ v.ownBlock = some B) := fun h => h.elim HBB.out.1 (fun e => HBB.out.2.1 B e rfl)
                  have hrow : HRow wc (cb + 1) 28 3 (.slice pl n cl) n (cells3 l) := by have h := HQ.out.2.1; rw [HQ.out.2.2.2.2.2.2] at h; exact h
                  obtain ⟨g, cap', hpe, _, _⟩ := hrow.slice (by omega)
                  cases hpe
                  have HRO := Lib.hid hrow
                  clear ha0 han hrow
                  go_wp2_with fail
                  go_region_held3 (fun w => w.cell? ⟨B, 0, none⟩ = some (.int .i64 vk) ∧ w.cell? ⟨B, 1, none⟩ = some (.int .i64 vn) ∧ w.cell? ⟨B, 2, none⟩ = some (.string s) ∧ w.cell? ⟨b, off + i * 5 + 1, none⟩ = some (Value.int .i64 ((a : Int)))) (first | exact ⟨q0, q1, q2, k1⟩ | exact hq3)
                    (first | (go_at_call 11; (with_reducible refine (hset _ (by first | exact (Below.refl _ _).drew | exact below_drewN _ _)).mono ?_); rintro e y3 ⟨rfl, d3, c3⟩; have hq3 : y3.cell? ⟨B, 0, none⟩ = some (.int .i64 vk) ∧ y3.cell? ⟨B, 1, none⟩ = some (.int .i64 vn) ∧ y3.cell? ⟨B, 2, none⟩ = some (.string s) ∧ y3.cell? ⟨b, off + i * 5 + 1, none⟩ = some (Value.int .i64 ((a : Int))) := ⟨(c3.cell (p := ⟨B, 0, none⟩) hBw hBn).trans q0, (c3.cell (p := ⟨B, 1, none⟩) hBw hBn).trans q1, (c3.cell (p := ⟨B, 2, none⟩) hBw hBn).trans q2, (c3.cell (p := ⟨b, off + i * 5 + 1, none⟩) hbw hbn).trans k1⟩; have r3' : HRow y3 (cb + 1) 28 3 (.slice (some ⟨g, 0, none⟩) n cl) n (cells3 l) := row_beside (HRO.out.later (by first | exact (Below.refl _ _).drew | exact below_drewN _ _)) HQ.out.2.2.1 c3; have b3 : Below W.heap.size W y3 := by first | exact (HQ.out.2.2.2.1.drew).trans ((HQ.out.1.later (Below.refl _ _).drew).below c3 HQ.out.2.2.2.1.size hWc) | exact (HQ.out.2.2.2.1.trans ((below_drewN wc _).mono HQ.out.2.2.2.1.size)).trans ((HQ.out.1.later (below_drewN wc _)).below c3 HQ.out.2.2.2.1.size hWc)))
                  obtain ⟨p0, p1, p2, p3⟩ := hq3
                  obtain ⟨z0, z1, z2⟩ := cells3_at l a (by have := HQ.out.2.2.2.2.2.2; omega)
                  have s0 := r3'.cell z0
                  have s1 := r3'.cell z1
                  have s2 := r3'.cell z2
                  have f0 := r3'.frozenAt (a * 3)
                  have f1 := r3'.frozenAt (a * 3 + 1)
                  have f2 := r3'.frozenAt (a * 3 + 2)
                  have hlg := (r3'.lt g rfl).2
                  have hlb := World.block_lt_of_cell? _ _ p3
                  have hlB := World.block_lt_of_cell? _ _ p0
                  have ha3 : (a : Int) < (n : Int) := by omega
                  clear z0 z1 z2 q0 q1 q2 k1
                  go_wp2_with fail
                  refine Par.wp_region_par 7 [.slice (some ⟨g, 0, none⟩) n cl, .slice (some ⟨b, off, none⟩) len cap, .int .i64 (i : Int), .pointer (some ⟨b, off + i * 5, none⟩), .pointer (some ⟨b, off + i * 5 + 1, none⟩), .int .i64 (a : Int), .agg #[.int .i64 vk, .int .i64 vn, .string s]] (fun w => w = y3.drew) ?A1 ?hm1 ?hB1 ?hA1 rfl ?hop1 ?hT1
                  case hm1 => kernel_rfl
                  case hB1 => kernel_rfl
                  case hA1 =>
                    simp only [Par.putA, Par.dstAt, Act.put, List.getElem?_toArray, List.getElem?_cons_zero, List.getElem?_cons_succ, Option.bind_some, List.setIfInBounds_toArray, List.set_cons_zero, List.set_cons_succ, List.getD_cons_zero, List.getD_cons_succ]
                    rfl
                  case hop1 =>
                    simp only [List.take_succ_cons, List.take_zero, Par.GiveAll, and_true]
                    refine ⟨fun w' hR => ?_, fun w' hR => ?_, fun w' hR => ?_, fun w' hR => ?_, fun w' hR => ?_, fun w' hR => ?_, fun w' hR => ?_⟩
                    · have HR := Lib.hid hR
                      clear hR
                      simp only [Par.Gives]
                      go_simp
                      all_goals exact HR.out
                    · have HR := Lib.hid hR
                      clear hR
                      simp only [Par.Gives]
                      go_simp
                      all_goals exact HR.out
                    · have HR := Lib.hid hR
                      clear hR
                      simp only [Par.Gives]
                      go_simp
                      all_goals exact HR.out
                    · have HR := Lib.hid hR
                      clear hR
                      simp only [Par.Gives]
                      go_simp
                      all_goals exact HR.out
                    · have HR := Lib.hid hR
                      clear hR
                      simp only [Par.Gives]
                      go_simp
                      all_goals exact HR.out
                    · have HR := Lib.hid hR
                      obtain rfl := hR
                      simp only [Par.Gives]
                      go_simp
                      all_goals exact HR.out
                    · have HR := Lib.hid hR
                      obtain rfl := hR
                      simp only [Par.Gives]
                      go_simp
                      all_goals exact HR.out
                  case hT1 =>
                    intro w' hR
                    simp only [List.drop_succ_cons, List.drop_zero]
                    subst hR
                    obtain ⟨r4, g4⟩ := row_set r3' HQ.out.2.2.2.2.2.2 a hai vk vn s
                    have d4 := d3.beside r3' (by decide) HQ.out.2.2.1 (fun k hk => by cases hk; rfl) g4
                    have b4 : Below W.heap.size W (((y3.setCell ⟨g, a * 3, none⟩ (.int .i64 vk)).setCell ⟨g, a * 3 + 1, none⟩ (.int .i64 vn)).setCell ⟨g, a * 3 + 2, none⟩ (.string s)) := b3.trans (below_row r3' g4 (by omega) b3.size)
                    have H4 := Lib.hid (And.intro (d4.later (Below.refl _ _).drew) (And.intro (r4.later (Below.refl _ _).drew) b4.drew))
                    clear d4 r4 g4 b4 r3' b3 d3
                    go_wp2_with fail
                    go_roundg (50 - i)
                    case measure => omega
                    case rel =>
                      obtain ⟨d5, r5, b5⟩ := H4.out
                      exact ⟨l.set a (vk, vn, s), v, i + 1, by omega, by omega, by omega, by simp, by have := HQ.out.2.2.2.2.2.2; simp; omega, d5, by have h := HQ.out.2.2.2.2.2.2; rw [List.length_set, h]; exact r5, HQ.out.2.2.1, b5⟩
        · have hex : ¬ i < len ∨ (i < len ∧ ¬ i < 50) := by omega
          have HI := Lib.hid (And.intro hC (And.intro hR (And.intro hA hB)))
          clear hlt hP hC hR hA hB
          have hl50 : l.length ≤ 50 := by omega
          rcases hex with hex | ⟨hex, hex'⟩
          all_goals
            go_wp2_with fail
            go_meet
            exact ⟨l, v, hl50, HI.out⟩
    case rest =>
      clear HZ hP hlen
      obtain ⟨l, v, hl50, hC, hR, hA, hB⟩ := hcut
      -- THE REST
      obtain ⟨wz, rfl⟩ : ∃ wz, wz = wc := ⟨_, rfl⟩
      obtain ⟨pl, cl, rfl, hcl, hcm⟩ := hR.isslice
      obtain ⟨n, hn⟩ : ∃ n, l.length = n := ⟨_, rfl⟩
      have HC := Lib.hid (And.intro hC (And.intro hR hn))
      have HB := Lib.hid hB
      rw [hn] at hl50 hcl ⊢
      clear hC hR hA hB hn
      go_upto_block 2 with fail
      go_cut [13, 14] from 300 to 300 (fun av bv w => av = .int .i64 (((dw l n).length : Nat) : Int) ∧ bv = .int .i64 ((nz l : Nat) : Int) ∧ Below wz.heap.size wz w)
      case first =>
        go_wp2_with fail
        go_loopg [13, 14, 15] 51 (fun gh av bv iv w => ∃ i : Nat, i ≤ n ∧ 51 ≤ i + gh ∧ av = .int .i64 (((dw l i).length : Nat) : Int) ∧ bv = .int .i64 ((nz (l.take i) : Nat) : Int) ∧ iv = .int .i64 (i : Int) ∧ Below wz.heap.size wz w)
        case atStart => exact ⟨0, Nat.zero_le _, Nat.le_refl _, rfl, rfl, rfl, Below.refl _ _⟩
        case round =>
          obtain ⟨i, hin, hig, rfl, rfl, rfl, hbw⟩ := hrel
          by_cases hlt : i < n
          · obtain ⟨hC, hR, hn⟩ := HC.out
            have hil : i < l.length := by omega
            rw [hn] at hR
            obtain ⟨g, cap, hpe, _, _⟩ := hR.slice (by omega)
            cases hpe
            have hat := fun y (hy : Below wz.heap.size wz y) => col_at (hC.later hy) i hil
            obtain ⟨⟨xk, xn, xt⟩, hx⟩ : ∃ x : T3, l[i] = x := ⟨_, rfl⟩
            rw [hx] at hat
            obtain ⟨z0, z1, z2⟩ := cells3_at l i hil
            rw [hx] at z0 z1 z2
            have hrow : ∀ y, Below wz.heap.size wz y → y.cell? ⟨g, i * 3, none⟩ = some (.int .i64 xk) ∧ y.cell? ⟨g, i * 3 + 1, none⟩ = some (.int .i64 xn) ∧ y.cell? ⟨g, i * 3 + 2, none⟩ = some (.string xt) := fun y hy => ⟨(hR.later hy).cell z0, (hR.later hy).cell z1, (hR.later hy).cell z2⟩
            have hi3 : (i : Int) < (n : Int) := by omega
            have hdw := dw_succ l i hil
            have hnz := nul_succ l i hil
            have hdl := dw_le l i
            have hnl := nz_le (l.take i)
            rw [hx] at hdw hnz
            rw [List.length_take] at hnl
            obtain ⟨d, hd⟩ : ∃ d, (dw l i).length = d := ⟨_, rfl⟩
            obtain ⟨e, he⟩ : ∃ e, nz (l.take i) = e := ⟨_, rfl⟩
            rw [hd] at hdw hdl ⊢
            rw [he] at hnz hnl ⊢
            have HD := Lib.hid (And.intro hdw (And.intro hnz hx))
            have hd50 : d ≤ 50 := by omega
            have he50 : e ≤ 50 := by omega
            have hbw0 := hbw.size
            have hgw : g < wr.heap.size := World.block_lt_of_cell? _ _ (hrow wr hbw).1
            clear z0 z1 z2 hdw hnz hdl hnl hd he hx hC hR hn
            go_upto_region 28 with (go_at_call 12; (with_reducible refine (hat _ hbw).mono ?_); rintro ev y1 ⟨rfl, b1⟩; clear hat)
            have hbx := heap_alloc_new y1 (.cells #[.int .i64 xk, .int .i64 xn, .string xt] 28)
            have hb2 := below_on hbw (below_on b1 (below_alloc y1 (.cells #[.int .i64 xk, .int .i64 xn, .string xt] 28)))
            obtain ⟨w2, hw2⟩ : ∃ w2, y1.alloc (.cells #[.int .i64 xk, .int .i64 xn, .string xt] 28) = w2 := ⟨_, rfl⟩
            obtain ⟨B, hBx⟩ : ∃ B, y1.heap.size = B := ⟨_, rfl⟩
            rw [hw2, hBx] at hbx
            rw [hw2] at hb2
            rw [hw2, hBx]
            have hBl := lt_of_heap hbx
            have hld : ∀ y, Below w2.heap.size w2 y → y.cell? ⟨B, 0, none⟩ = some (.int .i64 xk) ∧ y.cell? ⟨B, 1, none⟩ = some (.int .i64 xn) ∧ y.cell? ⟨B, 2, none⟩ = some (.string xt) ∧ y.cell? ⟨g, i * 3, none⟩ = some (.int .i64 xk) ∧ y.cell? ⟨g, i * 3 + 1, none⟩ = some (.int .i64 xn) ∧ y.cell? ⟨g, i * 3 + 2, none⟩ = some (.string xt) := fun y hy =>
              ⟨nd_cell ((hy.block B hBl).trans hbx) 0, nd_cell ((hy.block B hBl).trans hbx) 1, nd_cell ((hy.block B hBl).trans hbx) 2, hrow y (below_on hb2 hy)⟩
            have heq : ∀ y, Calls Try.prog 13 #[(Value.agg #[Value.int .i64 (xk), Value.int .i64 (xn), Value.string (xt)]), (Value.agg #[Value.int .i64 (xk), Value.int .i64 (xn), Value.string (xt)])] y fun e w' => e = .returned (.bool true) ∧ Below y.heap.size y w' := fun y => by
              have h := refEq_any xk xn xt xk xn xt y
              have he : eqV xk xn xt xk xn xt = true := by simp [eqV]
              rw [he] at h
              exact h
            have HW := Lib.hid hb2
            clear hw2 hBx b1 y1 hbx hb2 hbw hbw0 hBl
            go_cut [140] from 130 to 140 (fun u w => u = .bool false ∧ Below w2.heap.size w2 w)
            case first =>
              refine Par.wp_region_par 11 [.bool true, .bool false, .bool false, .agg #[.int .i64 xk, .int .i64 xn, .string xt], .slice (some ⟨g, 0, none⟩) n cl, .int .i64 (i : Int), .pointer (some ⟨g, i * 3, none⟩), .agg #[.int .i64 xk, .int .i64 xn, .string xt], .bool true, .bool false, .bool false] (fun w => Below w2.heap.size w2 w) ?A21 ?hm21 ?hB21 ?hA21 (Below.refl _ w2).drew ?hop21 ?hT21
              case hm21 => kernel_rfl
              case hB21 => kernel_rfl
              case hA21 =>
                simp only [Par.putA, Par.dstAt, Act.put, List.getElem?_toArray, List.getElem?_cons_zero, List.getElem?_cons_succ, Option.bind_some, List.setIfInBounds_toArray, List.set_cons_zero, List.set_cons_succ, List.getD_cons_zero, List.getD_cons_succ]
                rfl
              case hop21 =>
                simp only [List.take_succ_cons, List.take_zero, Par.GiveAll, and_true]
                refine ⟨fun w' hR => ?_, fun w' hR => ?_, fun w' hR => ?_, fun w' hR => ?_, fun w' hR => ?_, fun w' hR => ?_, fun w' hR => ?_, fun w' hR => ?_, fun w' hR => ?_, fun w' hR => ?_, fun w' hR => ?_⟩
                · have HR := Lib.hid hR
                  clear hR
                  simp only [Par.Gives]
                  go_simp
                  all_goals exact HR.out
                · have HR := Lib.hid hR
                  clear hR
                  simp only [Par.Gives]
                  go_simp
                  all_goals exact HR.out
                · have HR := Lib.hid hR
                  clear hR
                  simp only [Par.Gives]
                  go_simp
                  all_goals exact HR.out
                · have HR := Lib.hid hR
                  obtain ⟨l0, l1, l2, _, _, _⟩ := hld w' hR
                  clear hR
                  simp only [Par.Gives]
                  go_simp
                  all_goals exact HR.out
                · have HR := Lib.hid hR
                  clear hR
                  simp only [Par.Gives]
                  go_simp
                  all_goals exact HR.out
                · have HR := Lib.hid hR
                  clear hR
                  simp only [Par.Gives]
                  go_simp
                  all_goals exact HR.out
                · have HR := Lib.hid hR
                  clear hR
                  simp only [Par.Gives]
                  go_simp
                  all_goals exact HR.out
                · have HR := Lib.hid hR
                  obtain ⟨_, _, _, l0, l1, l2⟩ := hld w' hR
                  clear hR
                  simp only [Par.Gives]
                  go_simp
                  all_goals exact HR.out
                · have HR := Lib.hid hR
                  clear hR
                  simp only [Par.Gives]
                  go_simp
                  exact (heq w').mono (fun e w'' ⟨he, hb⟩ => ⟨he, below_on HR.out hb⟩)
                · have HR := Lib.hid hR
                  clear hR
                  simp only [Par.Gives]
                  go_simp
                  all_goals exact HR.out
                · have HR := Lib.hid hR
                  clear hR
                  simp only [Par.Gives]
                  go_simp
                  all_goals exact HR.out
              case hT21 =>
                intro w' hR
                simp only [List.drop_succ_cons, List.drop_zero]
                go_wp2_with fail
                go_meet
                exact ⟨rfl, hR⟩
            case rest =>
              obtain ⟨rfl, hb3⟩ := hcut
              have hb3 := below_on HW.out hb3
              clear hld heq HW
              obtain ⟨c0, c1, c2⟩ := hrow _ hb3
              have hg3 := World.block_lt_of_cell? _ _ c0
              go_upto_block 4 with fail
              -- THE INNER LOOP
              obtain ⟨wi, rfl⟩ : ∃ wi, wi = wc := ⟨_, rfl⟩
              have HI := Lib.hid (And.intro hb3 (And.intro hrow HD.out.2.2))
              clear hb3 hrow
              go_cut [18] from 300 to 300 (fun u w => u = .bool (nw (xk, xn, xt) (l.take i)) ∧ Below wi.heap.size wi w)
              case first =>
                go_wp2_with fail
                go_loopg [18, 19] 51 (fun gh u kv w => ∃ k : Nat, k ≤ i ∧ 51 ≤ k + gh ∧ u = .bool (nw (xk, xn, xt) (l.take k)) ∧ kv = .int .i64 (k : Int) ∧ Below wi.heap.size wi w)
                case atStart => exact ⟨0, Nat.zero_le _, Nat.le_refl _, by rw [List.take_zero, nw_nil], rfl, Below.refl _ _⟩
                case round =>
                  clear c0 c1 c2
                  obtain ⟨k, hki, hkg, rfl, rfl, hbk⟩ := hrel
                  by_cases hlt2 : k < i
                  · obtain ⟨hb3, hrow, hx⟩ := HI.out
                    obtain ⟨hC, hR, hn⟩ := HC.out
                    rw [hn] at hR
                    have hkl : k < l.length := by omega
                    obtain ⟨⟨yk, yn, yt⟩, hy⟩ : ∃ y : T3, l[k] = y := ⟨l[k], rfl⟩
                    obtain ⟨z0, z1, z2⟩ := cells3_at l k hkl
                    rw [hy] at z0 z1 z2
                    have hbz : ∀ y, Below wr.heap.size wr y → Below wz.heap.size wz y := fun y hy => below_on hb3 (below_on hbk hy)
                    have hld : ∀ y, Below wr.heap.size wr y → y.cell? ⟨g, k * 3, none⟩ = some (.int .i64 yk) ∧ y.cell? ⟨g, k * 3 + 1, none⟩ = some (.int .i64 yn) ∧ y.cell? ⟨g, k * 3 + 2, none⟩ = some (.string yt) ∧ y.cell? ⟨g, i * 3, none⟩ = some (.int .i64 xk) ∧ y.cell? ⟨g, i * 3 + 1, none⟩ = some (.int .i64 xn) ∧ y.cell? ⟨g, i * 3 + 2, none⟩ = some (.string xt) := fun y hy =>
                      ⟨(hR.later (hbz y hy)).cell z0, (hR.later (hbz y hy)).cell z1, (hR.later (hbz y hy)).cell z2, hrow y (hbz y hy)⟩
                    have heq := fun y => refEq_any yk yn yt xk xn xt y
                    have hv1 := nw_snoc (xk, xn, xt) (yk, yn, yt) (l.take k)
                    rw [← hy, ← List.take_succ_eq_append_getElem hkl, hy] at hv1
                    have hee : eqT (yk, yn, yt) (xk, xn, xt) = eqV yk yn yt xk xn xt := rfl
                    rw [hee] at hv1
                    obtain ⟨ee, he⟩ : ∃ ee, eqV yk yn yt xk xn xt = ee := ⟨_, rfl⟩
                    rw [he] at hv1
                    simp only [he] at heq
                    have hk3 : (k : Int) < (n : Int) := by omega
                    have hk4 : (k : Int) < (i : Int) := by omega
                    obtain ⟨vv, hvv⟩ : ∃ vv, nw (xk, xn, xt) (l.take k) = vv := ⟨_, rfl⟩
                    rw [hvv] at hv1 ⊢
                    clear hbz z0 z1 z2 hy hb3 hrow hx hC hR hn he hee hvv hkl
                    cases vv with
                    | false =>
                      rw [Bool.false_and] at hv1
                      have HV := Lib.hid hv1
                      clear hv1
                      go_wp2_with fail
                      refine Par.wp_region_par 13 [.bool false, .bool false, undef, undef, undef, undef, undef, undef, undef, undef, undef, undef, .bool false] (fun w => Below wr.heap.size wr w) ?A23 ?hm23 ?hB23 ?hA23 (Below.refl _ wr).drew ?hop23 ?hT23
                      case hm23 => kernel_rfl
                      case hB23 => kernel_rfl
                      case hA23 =>
                        simp only [Par.putA, Par.dstAt, Act.put, List.getElem?_toArray, List.getElem?_cons_zero, List.getElem?_cons_succ, Option.bind_some, List.setIfInBounds_toArray, List.set_cons_zero, List.set_cons_succ, List.getD_cons_zero, List.getD_cons_succ]
                        rfl
                      case hop23 =>
                        simp only [List.take_succ_cons, List.take_zero, Par.GiveAll, and_true]
                        refine ⟨fun w' hR => ?_, fun w' hR => ?_, fun w' hR => ?_, fun w' hR => ?_, fun w' hR => ?_, fun w' hR => ?_, fun w' hR => ?_, fun w' hR => ?_, fun w' hR => ?_, fun w' hR => ?_, fun w' hR => ?_, fun w' hR => ?_, fun w' hR => ?_⟩
                        · have HR := Lib.hid hR
                          clear hR
                          simp only [Par.Gives]
                          go_simp
                          all_goals exact HR.out
                        · have HR := Lib.hid hR
                          clear hR
                          simp only [Par.Gives]
                          go_simp
                          all_goals exact HR.out
                        · have HR := Lib.hid hR
                          clear hR
                          simp only [Par.Gives]
                          go_simp
                          all_goals exact HR.out
                        · have HR := Lib.hid hR
                          clear hR
                          simp only [Par.Gives]
                          go_simp
                          all_goals exact HR.out
                        · have HR := Lib.hid hR
                          clear hR
                          simp only [Par.Gives]
                          go_simp
                          all_goals exact HR.out
                        · have HR := Lib.hid hR
                          clear hR
                          simp only [Par.Gives]
                          go_simp
                          all_goals exact HR.out
                        · have HR := Lib.hid hR
                          clear hR
                          simp only [Par.Gives]
                          go_simp
                          all_goals exact HR.out
                        · have HR := Lib.hid hR
                          clear hR
                          simp only [Par.Gives]
                          go_simp
                          all_goals exact HR.out
                        · have HR := Lib.hid hR
                          clear hR
                          simp only [Par.Gives]
                          go_simp
                          all_goals exact HR.out
                        · have HR := Lib.hid hR
                          clear hR
                          simp only [Par.Gives]
                          go_simp
                          all_goals exact HR.out
                        · have HR := Lib.hid hR
                          clear hR
                          simp only [Par.Gives]
                          go_simp
                          all_goals exact HR.out
                        · have HR := Lib.hid hR
                          clear hR
                          simp only [Par.Gives]
                          go_simp
                          all_goals exact HR.out
                        · have HR := Lib.hid hR
                          clear hR
                          simp only [Par.Gives]
                          go_simp
                          all_goals exact HR.out
                      case hT23 =>
                        intro w' hR
                        simp only [List.drop_succ_cons, List.drop_zero]
                        go_wp2_with fail
                        go_roundg (50 - k)
                        case measure => omega
                        case rel => exact ⟨k + 1, by omega, by omega, by rw [HV.out], by simp, below_on hbk hR⟩
                    | true =>
                      rw [Bool.true_and] at hv1
                      have HV := Lib.hid hv1
                      clear hv1
                      go_wp2_with fail
                      refine Par.wp_region_par 13 [.bool true, .bool true, .slice (some ⟨g, 0, none⟩) n cl, .int .i64 (k : Int), .pointer (some ⟨g, k * 3, none⟩), .agg #[.int .i64 yk, .int .i64 yn, .string yt], .slice (some ⟨g, 0, none⟩) n cl, .int .i64 (i : Int), .pointer (some ⟨g, i * 3, none⟩), .agg #[.int .i64 xk, .int .i64 xn, .string xt], .bool ee, .bool (!ee), .bool (!ee)] (fun w => Below wr.heap.size wr w) ?A22 ?hm22 ?hB22 ?hA22 (Below.refl _ wr).drew ?hop22 ?hT22
                      case hm22 => kernel_rfl
                      case hB22 => kernel_rfl
                      case hA22 =>
                        simp only [Par.putA, Par.dstAt, Act.put, List.getElem?_toArray, List.getElem?_cons_zero, List.getElem?_cons_succ, Option.bind_some, List.setIfInBounds_toArray, List.set_cons_zero, List.set_cons_succ, List.getD_cons_zero, List.getD_cons_succ]
                        rfl
                      case hop22 =>
                        simp only [List.take_succ_cons, List.take_zero, Par.GiveAll, and_true]
                        refine ⟨fun w' hR => ?_, fun w' hR => ?_, fun w' hR => ?_, fun w' hR => ?_, fun w' hR => ?_, fun w' hR => ?_, fun w' hR => ?_, fun w' hR => ?_, fun w' hR => ?_, fun w' hR => ?_, fun w' hR => ?_, fun w' hR => ?_, fun w' hR => ?_⟩
                        · have HR := Lib.hid hR
                          clear hR
                          simp only [Par.Gives]
                          go_simp
                          all_goals exact HR.out
                        · have HR := Lib.hid hR
                          clear hR
                          simp only [Par.Gives]
                          go_simp
                          all_goals exact HR.out
                        · have HR := Lib.hid hR
                          clear hR
                          simp only [Par.Gives]
                          go_simp
                          all_goals exact HR.out
                        · have HR := Lib.hid hR
                          clear hR
                          simp only [Par.Gives]
                          go_simp
                          all_goals exact HR.out
                        · have HR := Lib.hid hR
                          clear hR
                          simp only [Par.Gives]
                          go_simp
                          all_goals exact HR.out
                        · have HR := Lib.hid hR
                          obtain ⟨l0, l1, l2, _, _, _⟩ := hld w' hR
                          clear hR
                          simp only [Par.Gives]
                          go_simp
                          all_goals exact HR.out
                        · have HR := Lib.hid hR
                          clear hR
                          simp only [Par.Gives]
                          go_simp
                          all_goals exact HR.out
                        · have HR := Lib.hid hR
                          clear hR
                          simp only [Par.Gives]
                          go_simp
                          all_goals exact HR.out
                        · have HR := Lib.hid hR
                          clear hR
                          simp only [Par.Gives]
                          go_simp
                          all_goals exact HR.out
                        · have HR := Lib.hid hR
                          obtain ⟨_, _, _, l0, l1, l2⟩ := hld w' hR
                          clear hR
                          simp only [Par.Gives]
                          go_simp
                          all_goals exact HR.out
                        · have HR := Lib.hid hR
                          clear hR
                          simp only [Par.Gives]
                          go_simp
                          exact (heq w').mono (fun e w'' ⟨he, hb⟩ => ⟨he, below_on HR.out hb⟩)
                        · have HR := Lib.hid hR
                          clear hR
                          simp only [Par.Gives]
                          go_simp
                          all_goals exact HR.out
                        · have HR := Lib.hid hR
                          clear hR
                          simp only [Par.Gives]
                          go_simp
                          all_goals exact HR.out
                      case hT22 =>
                        intro w' hR
                        simp only [List.drop_succ_cons, List.drop_zero]
                        go_wp2_with fail
                        go_roundg (50 - k)
                        case measure => omega
                        case rel => exact ⟨k + 1, by omega, by omega, by rw [HV.out], by simp, below_on hbk hR⟩
                  · obtain rfl : k = i := by omega
                    go_wp2_with fail
                    go_meet
                    exact ⟨rfl, hbk⟩
              case rest =>
                obtain ⟨rfl, hbi⟩ := hcut
                obtain ⟨hb3, hrow, hx⟩ := HI.out
                have hb4 := below_on hb3 hbi
                obtain ⟨r0, _, _⟩ := hrow _ hb4
                obtain ⟨hd1, hd2, _⟩ := HD.out
                obtain ⟨vv, hvv⟩ : ∃ vv, nw (xk, xn, xt) (l.take i) = vv := ⟨_, rfl⟩
                rw [hvv] at hd1 ⊢
                have hgl := World.block_lt_of_cell? _ _ r0
                have HE := Lib.hid (And.intro hd1 (And.intro hd2 hb4))
                clear hb3 hrow hx hb4 hbi hd1 hd2 hvv c0 c1 c2
                cases vv with
                | false =>
                  by_cases h0 : xk = 0
                  · have e0 : (xk == 0) = true := by simp [h0]
                    go_wp2_with fail
                    go_roundg (50 - i)
                    case measure => omega
                    case rel => exact ⟨i + 1, by omega, by omega, by rw [HE.out.1]; simp, by rw [HE.out.2.1, if_pos h0]; simp, by simp, HE.out.2.2⟩
                  · have e0 : (xk == 0) = false := by simp [h0]
                    go_wp2_with fail
                    go_roundg (50 - i)
                    case measure => omega
                    case rel => exact ⟨i + 1, by omega, by omega, by rw [HE.out.1]; simp, by rw [HE.out.2.1, if_neg h0]; simp, by simp, HE.out.2.2⟩
                | true =>
                  by_cases h0 : xk = 0
                  · have e0 : (xk == 0) = true := by simp [h0]
                    go_wp2_with fail
                    go_roundg (50 - i)
                    case measure => omega
                    case rel => exact ⟨i + 1, by omega, by omega, by rw [HE.out.1]; simp, by rw [HE.out.2.1, if_pos h0]; simp, by simp, HE.out.2.2⟩
                  · have e0 : (xk == 0) = false := by simp [h0]
                    go_wp2_with fail
                    go_roundg (50 - i)
                    case measure => omega
                    case rel => exact ⟨i + 1, by omega, by omega, by rw [HE.out.1]; simp, by rw [HE.out.2.1, if_neg h0]; simp, by simp, HE.out.2.2⟩
          · obtain rfl : i = n := by omega
            have hn := HC.out.2.2
            have HL := Lib.hid (show l.take i = l from List.take_of_length_le (by omega))
            clear hn
            go_wp2_with fail
            go_meet
            exact ⟨rfl, by rw [HL.out], hbw⟩
      case rest =>
        -- THE END
        obtain ⟨rfl, rfl, hbw⟩ := hcut
        obtain ⟨hC, hR, hn⟩ := HC.out
        have hWz : W.heap.size ≤ wz.heap.size := HB.out.size
        have htk : l.take n = l := List.take_of_length_le (by omega)
        have hwords := fun y (hy : Below wz.heap.size wz y) => col_words (hC.later hy) (dw l n) (dw_nodup hC.ok n (by omega)) (fun s => by have h := dw_mem hC.ok s n (by omega); rw [htk] at h; exact h)
        have hnulls := fun y (hy : Below wz.heap.size wz y) => col_nulls (hC.later hy)
        have hlens := fun y (hy : Below wz.heap.size wz y) => col_len (hC.later hy)
        simp only [hn] at hlens
        obtain ⟨d, hd⟩ : ∃ d : Int, (((dw l n).length : Nat) : Int) = d := ⟨_, rfl⟩
        obtain ⟨e, he⟩ : ∃ e : Int, ((nz l : Nat) : Int) = e := ⟨_, rfl⟩
        simp only [hd] at hwords
        simp only [he] at hnulls
        rw [hd, he]
        by_cases hin : 0 ≤ at_ ∧ at_ < (n : Int)
        · obtain ⟨j, rfl⟩ := Int.eq_ofNat_of_zero_le hin.1
          have hjl : j < l.length := by omega
          have hat := fun y (hy : Below wz.heap.size wz y) => col_at (hC.later hy) j hjl
          generalize l[j] = x at hat
          obtain ⟨xk, xn, xt⟩ := x
          have hj3 : (j : Int) < (n : Int) := hin.2
          have hdj : decide ((j : Int) < (n : Int)) = true := decide_eq_true hj3
          clear hin hd he htk hC hR hn hjl
          go_wp2_with (first
            | (go_at_call 12; (with_reducible refine (hat _ hbw).mono ?_); rintro ev y1 ⟨rfl, b1⟩; have hb2 := below_on hbw (below_on b1 (below_alloc y1 (.cells #[.int .i64 xk, .int .i64 xn, .string xt] 28))); clear hat)
            | (go_at_call 14; (with_reducible refine (hlens _ hb2).mono ?_); rintro ev y2 ⟨rfl, hx⟩; subst y2)
            | (go_at_call 15; (with_reducible refine (hwords _ hb2).mono ?_); rintro ev y2 ⟨rfl, hx⟩; subst y2)
            | (go_at_call 16; (with_reducible refine (hnulls _ hb2).mono ?_); rintro ev y2 ⟨rfl, hx⟩; subst y2))
          go_ret
          exact ⟨rfl, HB.out.trans (hb2.mono hWz)⟩
        · have hat := fun y (hy : Below wz.heap.size wz y) => col_at_no (hC.later hy) at_ (by rw [hn]; exact hin)
          by_cases h0 : 0 ≤ at_
          · have h1 : ¬ at_ < (n : Int) := fun h => hin ⟨h0, h⟩
            have d0 : decide (0 ≤ at_) = true := decide_eq_true h0
            have d1 : decide (at_ < (n : Int)) = false := decide_eq_false h1
            clear hin hd he htk hC hR hn
            go_wp2_with (first
              | (go_at_call 12; (with_reducible refine (hat _ hbw).mono ?_); rintro ev y1 ⟨rfl, b1⟩; have hb2 := below_on hbw (below_on b1 (below_alloc y1 (.cells #[.int .i64 0, .int .i64 0, .string ⟨#[]⟩] 28))); clear hat)
              | (go_at_call 14; (with_reducible refine (hlens _ hb2).mono ?_); rintro ev y2 ⟨rfl, hx⟩; subst y2)
              | (go_at_call 15; (with_reducible refine (hwords _ hb2).mono ?_); rintro ev y2 ⟨rfl, hx⟩; subst y2)
              | (go_at_call 16; (with_reducible refine (hnulls _ hb2).mono ?_); rintro ev y2 ⟨rfl, hx⟩; subst y2))
            go_ret
            exact ⟨rfl, HB.out.trans (hb2.mono hWz)⟩
          · have d0 : decide (0 ≤ at_) = false := decide_eq_false h0
            clear hin hd he htk hC hR hn
            go_wp2_with (first
              | (go_at_call 12; (with_reducible refine (hat _ hbw).mono ?_); rintro ev y1 ⟨rfl, b1⟩; have hb2 := below_on hbw (below_on b1 (below_alloc y1 (.cells #[.int .i64 0, .int .i64 0, .string ⟨#[]⟩] 28))); clear hat)
              | (go_at_call 14; (with_reducible refine (hlens _ hb2).mono ?_); rintro ev y2 ⟨rfl, hx⟩; subst y2)
              | (go_at_call 15; (with_reducible refine (hwords _ hb2).mono ?_); rintro ev y2 ⟨rfl, hx⟩; subst y2)
              | (go_at_call 16; (with_reducible refine (hnulls _ hb2).mono ?_); rintro ev y2 ⟨rfl, hx⟩; subst y2))
            go_ret
            exact ⟨rfl, HB.out.trans (hb2.mono hWz)⟩
theorem call_walk (kind : Int) (p : Option Addr) (xs : List Op5) (len cap : Nat) (at_ : Int) (W : World) (hlen : xs.length = len) (hP : ParO W p xs) :
    Calls Try.prog 3 #[(Value.int .i64 (kind)), .slice p len cap, (Value.int .i64 (at_))] W fun e W' => e = .returned (.bool true) ∧ Below W.heap.size W W' := by
  by_cases h1 : kind = 1
  · exact call_yes kind (.inl h1) p xs len cap at_ W hlen hP
  · by_cases h2 : kind = 2
    · exact call_yes kind (.inr h2) p xs len cap at_ W hlen hP
    · exact call_no kind h1 h2 p len cap at_ W
end Go.Proofs.Ytglfmbpcapendaa.S
