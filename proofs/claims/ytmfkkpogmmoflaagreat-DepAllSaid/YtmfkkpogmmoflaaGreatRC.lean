/- The reference's May. -/
import Derived.Test.YtmfkkpogmmoflaaGreatRB
namespace Go.Proofs.YtmfkkpogmmoflaaGreat
open Go Go.RowKit Go.Proofs

theorem bel_cell {W w : World} {b off : Nat} {v : Value} (hb : Below W.heap.size W w) (h : W.cell? ⟨b, off, none⟩ = some v) : w.cell? ⟨b, off, none⟩ = some v :=
  (World.cell?_of_block (w := W) (hb.block b (World.block_lt_of_cell? W ⟨b, off, none⟩ h))).trans h
theorem rnames_is {t : T} {cv dv v : Value} {ts : List T} {W : World} {b : Bool} (h : RdT W cv dv t) (hs : RdTs W v ts) (hsm : Sm t) (hb : namesGood ts t = b) : Calls Tryz.prog 40 #[v, .agg #[.string t.nm, cv, .string t.key, dv]] W fun e w' => e = .returned (.bool b) ∧ Below W.heap.size W w' := hb ▸ rnames_any h hs hsm
/-- A boxed table, beside a row of tables. -/
structure KeepR (B : Nat) (W0 : World) (S0 : Nat) (t : T) (cv dv v : Value) (ts : List T) (w : World) : Prop where
  tb : KeepT B W0 S0 t cv dv w
  ts : RdTs w v ts
theorem KeepR.on {B : Nat} {W0 : World} {S0 : Nat} {t : T} {cv dv v : Value} {ts : List T} {w w' : World} (h : KeepR B W0 S0 t cv dv v ts w) (hb : Below w.heap.size w w') : KeepR B W0 S0 t cv dv v ts w' := ⟨h.tb.on hb, h.ts.later hb⟩
/-- What the table that is named asks. -/
theorem leads_at {ts : List T} (hi : Inv ts) (c : C) (hne : eqS c.tgt e0 = false) : (ixT ts c.tgt = -1 ∧ leads ts c = 3) ∨ ∃ (k : Nat) (hk : k < ts.length), ixT ts c.tgt = (k : Int) ∧
    ((eqS ts[k].key e0 = true ∧ leads ts c = 9) ∨ (eqS ts[k].key e0 = false ∧ ∃ (q : Nat) (hq : q < ts[k].cols.length), ixC ts[k].cols ts[k].key = (q : Int) ∧ leads ts c = if ts[k].cols[q].kd = c.kd then 0 else 4)) := by
  rcases ixT_cases ts c.tgt with ⟨h1, _, h3⟩ | ⟨k, hk, h1, _, h3⟩
  · left
    refine ⟨h1, ?_⟩
    unfold leads
    rw [hne, h3]; rfl
  · right
    refine ⟨k, hk, h1, ?_⟩
    have hl : leads ts c = (match colOf ts[k].cols ts[k].key with | none => (9 : Int) | some q => if q.kd = c.kd then 0 else 4) := by
      unfold leads
      rw [hne, h3]; rfl
    have hm := List.getElem_mem hk
    cases hk0 : eqS ts[k].key e0
    · right
      refine ⟨rfl, ?_⟩
      have hg := hi.key _ hm
      unfold keyGood at hg
      rw [hk0, Bool.false_or] at hg
      rcases ixC_cases ts[k].cols ts[k].key with ⟨_, h5, _⟩ | ⟨q, hq, h5, _, h6⟩
      · rw [h5] at hg; cases hg
      · refine ⟨q, hq, h5, ?_⟩
        rw [hl, h6]
    · left
      refine ⟨rfl, ?_⟩
      rw [eqS_iff] at hk0
      rw [hl, hk0, no_empty (hi.col _ hm)]

set_option maxRecDepth 100000 in
set_option maxHeartbeats 8000000 in
theorem rmay_any {t : T} {cv dv v : Value} {ts : List T} {W : World} (h : RdT W cv dv t) (hs : RdTs W v ts) (hi : Inv ts) (hsm : Sm t) : Calls Tryz.prog 22 #[v, .agg #[.string t.nm, cv, .string t.key, dv]] W fun e w' => e = .returned (.int .i64 (mayP ts t)) ∧ Below W.heap.size W w' := by
  have HK := Lib.hid (show KeepR W.heap.size W W.heap.size t cv dv v ts _ from ⟨KeepT.new h, hs.later (below_alloc W (boxT t.nm cv t.key dv))⟩)
  obtain ⟨pc, cc, hcv, hc, hm⟩ := h.c.slice
  obtain ⟨p, cap, hdv, hc3, hm3⟩ := h.d.slice
  obtain ⟨pv, capv, hv, hcv2, hmv⟩ := hs.slice
  obtain ⟨n, hn⟩ : ∃ n, t.cols.length = n := ⟨_, rfl⟩
  obtain ⟨nd, hnd⟩ : ∃ n, t.deps.length = n := ⟨_, rfl⟩
  obtain ⟨m, hml⟩ : ∃ n, ts.length = n := ⟨_, rfl⟩
  obtain ⟨B, hB⟩ : ∃ B, W.heap.size = B := ⟨_, rfl⟩
  unfold maxLen at hm hm3 hmv
  rw [hnd] at hdv hc3
  rw [hn] at hcv hc
  rw [hml] at hv hcv2
  subst hcv hdv hv
  have hlim : lim ts t = (decide (8 ≤ m) || (decide (n < 1) || (decide (6 < n) || decide (3 < nd)))) := by unfold lim; rw [hn, hnd, hml]
  have HN := Lib.hid (And.intro hn (And.intro hnd hml))
  rw [hB] at HK
  have hB2 := Lib.hid hB
  have SM := Lib.hid (And.intro hsm hi)
  obtain ⟨w0, hw0⟩ : ∃ w0, W.alloc (boxT t.nm (.slice pc n cc) t.key (.slice p nd cap)) = w0 := ⟨_, rfl⟩
  rw [hw0] at HK
  have HW := Lib.hid hw0
  obtain ⟨hlt0, z0, z1, z2, z3⟩ := HK.out.tb.cells
  clear h hs hn hnd hml hB hw0 hsm hi
  by_cases hL : lim ts t = true
  · have HG : Hid (mayP ts t = 5) := Lib.hid (by unfold mayP; rw [if_pos hL])
    rw [hlim] at hL
    clear hlim
    by_cases q1 : 8 ≤ m
    · clear hL
      go_enter Tryz.func22, Tryz.ntmps22
      go_upto_region 1 with fail
      rw [HW.out, hB2.out]
      go_wp2_with fail
      go_ret
      exact ⟨ret_int HG.out.symm, hB2.out ▸ HK.out.tb.below⟩
    by_cases q2 : n < 1
    · clear hL
      go_enter Tryz.func22, Tryz.ntmps22
      go_upto_region 1 with fail
      rw [HW.out, hB2.out]
      go_wp2_with fail
      go_ret
      exact ⟨ret_int HG.out.symm, hB2.out ▸ HK.out.tb.below⟩
    by_cases q3 : 6 < n
    · clear hL
      go_enter Tryz.func22, Tryz.ntmps22
      go_upto_region 1 with fail
      rw [HW.out, hB2.out]
      go_wp2_with fail
      go_ret
      exact ⟨ret_int HG.out.symm, hB2.out ▸ HK.out.tb.below⟩
    have q4 : 3 < nd := by
      rw [decide_eq_false q1, decide_eq_false q2, decide_eq_false q3] at hL
      simpa using hL
    clear hL
    go_enter Tryz.func22, Tryz.ntmps22
    go_upto_region 1 with fail
    rw [HW.out, hB2.out]
    go_wp2_with fail
    go_ret
    exact ⟨ret_int HG.out.symm, hB2.out ▸ HK.out.tb.below⟩
  have HL : Hid (mayP ts t = if namesGood ts t = true then (if kindsGood t.cols = true then firstErr (t.cols.map (leads ts)) else 4) else 3) := Lib.hid (by unfold mayP; rw [if_neg hL])
  rw [hlim] at hL
  simp only [Bool.or_eq_true, decide_eq_true_eq, not_or] at hL
  obtain ⟨q1, q2, q3, q4⟩ := hL
  clear hlim
  cases hng : namesGood ts t
  · have HG : Hid (mayP ts t = 3) := Lib.hid (by rw [HL.out, hng]; rfl)
    have hnm := rnames_is HK.out.tb.tab HK.out.ts SM.out.1 hng
    clear hng
    go_enter Tryz.func22, Tryz.ntmps22
    go_upto_region 1 with fail
    rw [HW.out, hB2.out]
    go_wp2_with (go_at_call 40; (with_reducible refine hnm.mono ?_); rintro e w1 ⟨rfl, hb⟩)
    go_ret
    exact ⟨ret_int HG.out.symm, hB2.out ▸ (HK.out.on hb).tb.below⟩
  have HL2 : Hid (mayP ts t = if kindsGood t.cols = true then firstErr (t.cols.map (leads ts)) else 4) := Lib.hid (by rw [HL.out, hng]; rfl)
  have hnm := rnames_is HK.out.tb.tab HK.out.ts SM.out.1 hng
  clear hng
  go_enter Tryz.func22, Tryz.ntmps22
  go_upto_region 1 with fail
  rw [HW.out, hB2.out]
  go_wp2_with (go_at_call 40; (with_reducible refine hnm.mono ?_); rintro e w1 ⟨rfl, hb⟩; have K1 := Lib.hid (HK.out.on hb); clear hb)
  clear z0 z1 z2 z3 hlt0 q1 q2 q4 hnm HK
  go_loopg [5] (n + 1) (fun gh jv w => ∃ (j : Nat), jv = .int .i64 (j : Int) ∧ j ≤ n ∧ n + 1 ≤ j + gh ∧ (∀ i, i < j → kindAt t.cols i = true) ∧ KeepR B W B t (.slice pc n cc) (.slice p nd cap) (.slice pv m capv) ts w)
  case atStart => exact ⟨0, rfl, Nat.zero_le _, by omega, fun i hi => by omega, K1.out⟩
  case round =>
    obtain ⟨j, rfl, hj, hg, hno, hK⟩ := hrel
    have HI := Lib.hid (And.intro hno hK)
    clear hno
    obtain ⟨u0, _, u2, u3, u4⟩ := hK.tb.cells
    by_cases hlt : j < n
    · have hjl : j < t.cols.length := by rw [HN.out.1]; exact hlt
      obtain ⟨b, off, rfl, hbl, _, c1, _⟩ := RdC.col hK.tb.tab.c hjl
      obtain ⟨c, hcj⟩ : ∃ c, t.cols[j] = c := ⟨_, rfl⟩
      have hG := kindAt_at hjl
      rw [hcj] at c1 hG
      have HG := Lib.hid hG
      clear hK hcj hG
      by_cases h1 : c.kd = 1
      · have e1 : (c.kd != 1) = false := by simp [h1]
        have H1 := Lib.hid h1
        clear h1
        go_wp2_with fail
        go_roundg (n - j)
        case measure => omega
        case rel => exact ⟨j + 1, by go_num, by omega, by omega, fun i hi => by rcases (by omega : i < j ∨ i = j) with h | rfl; exact HI.out.1 i h; rw [HG.out, decide_eq_true (.inl H1.out)], HI.out.2⟩
      · have e1 : (c.kd != 1) = true := by simp [h1]
        by_cases h2 : c.kd = 2
        · have e2 : (c.kd != 2) = false := by simp [h2]
          have H2 := Lib.hid h2
          clear h1 h2
          go_wp2_with fail
          go_roundg (n - j)
          case measure => omega
          case rel => exact ⟨j + 1, by go_num, by omega, by omega, fun i hi => by rcases (by omega : i < j ∨ i = j) with h | rfl; exact HI.out.1 i h; rw [HG.out, decide_eq_true (.inr H2.out)], HI.out.2⟩
        · have e2 : (c.kd != 2) = true := by simp [h2]
          have H2 : Hid (¬ (c.kd = 1 ∨ c.kd = 2)) := Lib.hid (fun h => h.elim h1 h2)
          clear h1 h2
          go_wp2_with fail
          go_ret
          exact ⟨ret_int (by rw [HL2.out]; unfold kindsGood; rw [range_no j hjl (by rw [HG.out, decide_eq_false H2.out])]; rfl), hB2.out ▸ HI.out.2.tb.below⟩
    · have HL3 : Hid (mayP ts t = firstErr (t.cols.map (leads ts))) := Lib.hid (by rw [HL2.out]; unfold kindsGood; rw [range_yes (fun i hi => HI.out.1 i (by have := HN.out.1; omega))]; rfl)
      go_upto_region 10 with fail
      clear u0 u2 u3 u4 hK
      go_wp2_with fail
      go_loopg [6] (n + 1) (fun gh jv w => ∃ (j : Nat), jv = .int .i64 (j : Int) ∧ j ≤ n ∧ n + 1 ≤ j + gh ∧ (∀ i (h : i < t.cols.length), i < j → leads ts t.cols[i] = 0) ∧ KeepR B W B t (.slice pc n cc) (.slice p nd cap) (.slice pv m capv) ts w)
      case atStart => exact ⟨0, rfl, Nat.zero_le _, by omega, fun i _ hi => by omega, HI.out.2⟩
      case round =>
        obtain ⟨i, rfl, hi, hg2, hno2, hK⟩ := hrel
        have HI2 := Lib.hid (And.intro hno2 hK)
        clear hno2
        obtain ⟨u0, u1, u2, u3, u4⟩ := hK.tb.cells
        by_cases hlt2 : i < n
        · have hil : i < t.cols.length := by rw [HN.out.1]; exact hlt2
          obtain ⟨b, off, rfl, hbl, _, c1, _, c3⟩ := RdC.col hK.tb.tab.c hil
          obtain ⟨c, hcj⟩ : ∃ c, t.cols[i] = c := ⟨_, rfl⟩
          rw [hcj] at c1 c3
          have hii : (i : Int) < (n : Int) := by omega
          have hgo : leads ts c = 0 → ∀ x (h : x < t.cols.length), x < i + 1 → leads ts t.cols[x] = 0 := fun h0 x hx hxi => by
            by_cases e : x = i
            · subst e; rw [hcj]; exact h0
            · exact HI2.out.1 x hx (by omega)
          have hstop : leads ts c ≠ 0 → mayP ts t = leads ts c := fun h0 => by
            have hml : i < (t.cols.map (leads ts)).length := by rw [List.length_map]; exact hil
            have := firstErr_at (t.cols.map (leads ts)) i hml (by rw [List.getElem_map, hcj]; exact h0) (fun x hx => by rw [List.getElem_map]; exact HI2.out.1 x (by omega) hx)
            rw [HL3.out, this, List.getElem_map, hcj]
          have HGO := Lib.hid hgo
          have HST := Lib.hid hstop
          clear hgo hstop
          cases hte : eqS c.tgt e0
          rotate_left
          · have he : c.tgt.toList.isEmpty = true := by rw [eqS_e0]; exact hte
            have HGo := Lib.hid (HGO.out (by unfold leads; rw [hte]; rfl))
            clear hK hcj hte
            go_wp2_with fail
            go_roundg (n - i)
            case measure => omega
            case rel => exact ⟨i + 1, by go_num, by omega, by omega, HGo.out, HI2.out.2⟩
          have he : c.tgt.toList.isEmpty = false := by rw [eqS_e0]; exact hte
          have hfd := rfind_any (x := c.tgt) hK.ts
          have hla := leads_at SM.out.2 c hte
          clear hcj hte
          rcases hla with ⟨h1, h2⟩ | ⟨k, hk, h1, h2⟩
          · rw [h1] at hfd
            have HG : Hid (mayP ts t = 3) := Lib.hid (by rw [HST.out (by rw [h2]; decide), h2])
            clear hK h1 h2
            go_wp2_with (go_at_call 24; (with_reducible refine hfd.mono ?_); rintro e w2 ⟨rfl, hw2⟩; subst w2)
            go_ret
            exact ⟨ret_int HG.out.symm, hB2.out ▸ HI2.out.2.tb.below⟩
          rw [h1] at hfd
          obtain ⟨vb, vo, cvk, dvk, rfl, hvb, k0, k1, k2, k3, hrt⟩ := RdTs.tab hK.ts hk
          have hkm : k < m := by rw [← HN.out.2.2]; exact hk
          obtain ⟨tk, htk⟩ : ∃ x, ts[k] = x := ⟨_, rfl⟩
          rw [htk] at k0 k2 hrt
          simp only [htk] at h2
          obtain ⟨pk, ck, rfl, _, _⟩ := hrt.c.slice
          obtain ⟨pkd, ckd, rfl, _, _⟩ := hrt.d.slice
          rcases h2 with ⟨h3, h4⟩ | ⟨h3, q, hq, h5, h6⟩
          · have hke : tk.key.toList.isEmpty = true := by rw [eqS_e0]; exact h3
            have HG : Hid (mayP ts t = 9) := Lib.hid (by rw [HST.out (by rw [h4]; decide), h4])
            clear hK h1 h3 h4 hrt htk hk
            go_wp2_with (go_at_call 24; (with_reducible refine hfd.mono ?_); rintro e w2 ⟨rfl, hw2⟩; subst w2)
            go_ret
            exact ⟨ret_int HG.out.symm, hB2.out ▸ HI2.out.2.tb.below⟩
          have hke : tk.key.toList.isEmpty = false := by rw [eqS_e0]; exact h3
          obtain ⟨kb, ko, rfl, hkb, _, g1, _, _⟩ := RdC.col hrt.c hq
          have hco := fun (w : World) (hb : Below wr.heap.size wr w) => rcolOf_any (x := tk.key) (hrt.later hb)
          rw [h5] at hco
          obtain ⟨lk, hlk⟩ : ∃ x, tk.cols.length = x := ⟨_, rfl⟩
          obtain ⟨lkd, hlkd⟩ : ∃ x, tk.deps.length = x := ⟨_, rfl⟩
          obtain ⟨kq, hkq⟩ : ∃ x, tk.cols[q] = x := ⟨_, rfl⟩
          rw [hkq] at g1
          simp only [hkq] at h6
          rw [hlk] at hq
          simp only [hlk, hlkd] at hco k1 k3
          have HCO := Lib.hid hco
          clear hco
          have hqi : (q : Int) < (lk : Int) := by omega
          have hki : (k : Int) < (m : Int) := by omega
          clear hK h1 h3 h5 hrt htk hk hkq hlk hlkd hq
          go_upto_region 19 with (go_at_call 24; (with_reducible refine hfd.mono ?_); rintro e w2 ⟨rfl, hw2⟩; subst w2)
          by_cases hkk : kq.kd = c.kd
          · have HGo := Lib.hid (HGO.out (by rw [h6, if_pos hkk]))
            rw [hkk] at g1
            clear h6 hkk
            refine Par.wp_region_par 25 [.slice (some ⟨vb, vo, none⟩) m capv, .int .i64 k, (Value.pointer (some ⟨vb, vo + k * 4, none⟩)), (Value.pointer (some ⟨vb, vo + k * 4 + 1, none⟩)), .slice (some ⟨kb, ko, none⟩) lk ck, .slice (some ⟨vb, vo, none⟩) m capv, .int .i64 k, (Value.pointer (some ⟨vb, vo + k * 4, none⟩)), .agg #[.string tk.nm, .slice (some ⟨kb, ko, none⟩) lk ck, .string tk.key, .slice pkd lkd ckd], .slice (some ⟨vb, vo, none⟩) m capv, .int .i64 k, (Value.pointer (some ⟨vb, vo + k * 4, none⟩)), (Value.pointer (some ⟨vb, vo + k * 4 + 2, none⟩)), .string tk.key, .int .i64 q, (Value.pointer (some ⟨kb, ko + q * 4, none⟩)), (Value.pointer (some ⟨kb, ko + q * 4 + 1, none⟩)), .int .i64 c.kd, (Value.pointer (some ⟨B, 1, none⟩)), .slice (some ⟨b, off, none⟩) n cc, .int .i64 i, (Value.pointer (some ⟨b, off + i * 4, none⟩)), (Value.pointer (some ⟨b, off + i * 4 + 1, none⟩)), .int .i64 c.kd, .bool false] (fun w => Below wr.heap.size wr w) ?A1 ?hm1 ?hB1 ?hA1 (below_drew wr) ?hop1 ?hT1
            case hm1 => kernel_rfl
            case hB1 => kernel_rfl
            case hA1 =>
              simp only [Par.putA, Par.dstAt, Act.put, List.getElem?_toArray, List.getElem?_cons_zero, List.getElem?_cons_succ, Option.bind_some, List.setIfInBounds_toArray, List.set_cons_zero, List.set_cons_succ, List.getD_cons_zero, List.getD_cons_succ]
              rfl
            case hop1 =>
              simp only [List.take_succ_cons, List.take_zero, Par.GiveAll, and_true]
              refine ⟨fun w' hR => ?_, fun w' hR => ?_, fun w' hR => ?_, fun w' hR => ?_, fun w' hR => ?_, fun w' hR => ?_, fun w' hR => ?_, fun w' hR => ?_, fun w' hR => ?_, fun w' hR => ?_, fun w' hR => ?_, fun w' hR => ?_, fun w' hR => ?_, fun w' hR => ?_, fun w' hR => ?_, fun w' hR => ?_, fun w' hR => ?_, fun w' hR => ?_, fun w' hR => ?_, fun w' hR => ?_, fun w' hR => ?_, fun w' hR => ?_, fun w' hR => ?_, fun w' hR => ?_, fun w' hR => ?_⟩
              · have HR := Lib.hid hR
                clear hR
                simp only [Par.Gives]
                go_simp
                all_goals exact HR.out
              · have HR := Lib.hid hR
                clear hR
                simp only [Par.Gives]
                go_simp
                all_goals exact HR.out
              · have HR := Lib.hid hR
                clear hR
                simp only [Par.Gives]
                go_simp
                all_goals exact HR.out
              · have HR := Lib.hid hR
                clear hR
                simp only [Par.Gives]
                go_simp
                all_goals exact HR.out
              · have HR := Lib.hid hR
                have y := bel_cell hR k1
                clear hR
                simp only [Par.Gives]
                go_simp
                all_goals exact HR.out
              · have HR := Lib.hid hR
                clear hR
                simp only [Par.Gives]
                go_simp
                all_goals exact HR.out
              · have HR := Lib.hid hR
                clear hR
                simp only [Par.Gives]
                go_simp
                all_goals exact HR.out
              · have HR := Lib.hid hR
                clear hR
                simp only [Par.Gives]
                go_simp
                all_goals exact HR.out
              · have HR := Lib.hid hR
                have y0 := bel_cell hR k0
                have y1 := bel_cell hR k1
                have y2 := bel_cell hR k2
                have y3 := bel_cell hR k3
                clear hR
                simp only [Par.Gives]
                go_simp
                all_goals exact HR.out
              · have HR := Lib.hid hR
                clear hR
                simp only [Par.Gives]
                go_simp
                all_goals exact HR.out
              · have HR := Lib.hid hR
                clear hR
                simp only [Par.Gives]
                go_simp
                all_goals exact HR.out
              · have HR := Lib.hid hR
                clear hR
                simp only [Par.Gives]
                go_simp
                all_goals exact HR.out
              · have HR := Lib.hid hR
                clear hR
                simp only [Par.Gives]
                go_simp
                all_goals exact HR.out
              · have HR := Lib.hid hR
                have y := bel_cell hR k2
                clear hR
                simp only [Par.Gives]
                go_simp
                all_goals exact HR.out
              · have HR := Lib.hid hR
                clear hR
                simp only [Par.Gives]
                go_simp
                exact (HCO.out w' HR.out).mono (fun e w'' ⟨he, hb⟩ => ⟨he, below_on HR.out hb⟩)
              · have HR := Lib.hid hR
                clear hR
                simp only [Par.Gives]
                go_simp
                all_goals exact HR.out
              · have HR := Lib.hid hR
                clear hR
                simp only [Par.Gives]
                go_simp
                all_goals exact HR.out
              · have HR := Lib.hid hR
                have y := bel_cell hR g1
                clear hR
                simp only [Par.Gives]
                go_simp
                all_goals exact HR.out
              · have HR := Lib.hid hR
                clear hR
                simp only [Par.Gives]
                go_simp
                all_goals exact HR.out
              · have HR := Lib.hid hR
                have y := bel_cell hR u2
                clear hR
                simp only [Par.Gives]
                go_simp
                all_goals exact HR.out
              · have HR := Lib.hid hR
                clear hR
                simp only [Par.Gives]
                go_simp
                all_goals exact HR.out
              · have HR := Lib.hid hR
                clear hR
                simp only [Par.Gives]
                go_simp
                all_goals exact HR.out
              · have HR := Lib.hid hR
                clear hR
                simp only [Par.Gives]
                go_simp
                all_goals exact HR.out
              · have HR := Lib.hid hR
                have y := bel_cell hR c1
                clear hR
                simp only [Par.Gives]
                go_simp
                all_goals exact HR.out
              · have HR := Lib.hid hR
                clear hR
                simp only [Par.Gives]
                go_simp
                all_goals exact HR.out
            case hT1 =>
              intro w' hR
              simp only [List.drop_succ_cons, List.drop_nil]
              go_wp2_with fail
              go_roundg (n - i)
              case measure => omega
              case rel => exact ⟨i + 1, by go_num, by omega, by omega, HGo.out, HI2.out.2.on hR⟩
          · have HG : Hid (mayP ts t = 4) := Lib.hid (by rw [HST.out (by rw [h6, if_neg hkk]; decide), h6, if_neg hkk])
            clear h6
            refine Par.wp_region_par 25 [.slice (some ⟨vb, vo, none⟩) m capv, .int .i64 k, (Value.pointer (some ⟨vb, vo + k * 4, none⟩)), (Value.pointer (some ⟨vb, vo + k * 4 + 1, none⟩)), .slice (some ⟨kb, ko, none⟩) lk ck, .slice (some ⟨vb, vo, none⟩) m capv, .int .i64 k, (Value.pointer (some ⟨vb, vo + k * 4, none⟩)), .agg #[.string tk.nm, .slice (some ⟨kb, ko, none⟩) lk ck, .string tk.key, .slice pkd lkd ckd], .slice (some ⟨vb, vo, none⟩) m capv, .int .i64 k, (Value.pointer (some ⟨vb, vo + k * 4, none⟩)), (Value.pointer (some ⟨vb, vo + k * 4 + 2, none⟩)), .string tk.key, .int .i64 q, (Value.pointer (some ⟨kb, ko + q * 4, none⟩)), (Value.pointer (some ⟨kb, ko + q * 4 + 1, none⟩)), .int .i64 kq.kd, (Value.pointer (some ⟨B, 1, none⟩)), .slice (some ⟨b, off, none⟩) n cc, .int .i64 i, (Value.pointer (some ⟨b, off + i * 4, none⟩)), (Value.pointer (some ⟨b, off + i * 4 + 1, none⟩)), .int .i64 c.kd, .bool true] (fun w => Below wr.heap.size wr w) ?A2 ?hm2 ?hB2 ?hA2 (below_drew wr) ?hop2 ?hT2
            case hm2 => kernel_rfl
            case hB2 => kernel_rfl
            case hA2 =>
              simp only [Par.putA, Par.dstAt, Act.put, List.getElem?_toArray, List.getElem?_cons_zero, List.getElem?_cons_succ, Option.bind_some, List.setIfInBounds_toArray, List.set_cons_zero, List.set_cons_succ, List.getD_cons_zero, List.getD_cons_succ]
              rfl
            case hop2 =>
              simp only [List.take_succ_cons, List.take_zero, Par.GiveAll, and_true]
              refine ⟨fun w' hR => ?_, fun w' hR => ?_, fun w' hR => ?_, fun w' hR => ?_, fun w' hR => ?_, fun w' hR => ?_, fun w' hR => ?_, fun w' hR => ?_, fun w' hR => ?_, fun w' hR => ?_, fun w' hR => ?_, fun w' hR => ?_, fun w' hR => ?_, fun w' hR => ?_, fun w' hR => ?_, fun w' hR => ?_, fun w' hR => ?_, fun w' hR => ?_, fun w' hR => ?_, fun w' hR => ?_, fun w' hR => ?_, fun w' hR => ?_, fun w' hR => ?_, fun w' hR => ?_, fun w' hR => ?_⟩
              · have HR := Lib.hid hR
                clear hR
                simp only [Par.Gives]
                go_simp
                all_goals exact HR.out
              · have HR := Lib.hid hR
                clear hR
                simp only [Par.Gives]
                go_simp
                all_goals exact HR.out
              · have HR := Lib.hid hR
                clear hR
                simp only [Par.Gives]
                go_simp
                all_goals exact HR.out
              · have HR := Lib.hid hR
                clear hR
                simp only [Par.Gives]
                go_simp
                all_goals exact HR.out
              · have HR := Lib.hid hR
                have y := bel_cell hR k1
                clear hR
                simp only [Par.Gives]
                go_simp
                all_goals exact HR.out
              · have HR := Lib.hid hR
                clear hR
                simp only [Par.Gives]
                go_simp
                all_goals exact HR.out
              · have HR := Lib.hid hR
                clear hR
                simp only [Par.Gives]
                go_simp
                all_goals exact HR.out
              · have HR := Lib.hid hR
                clear hR
                simp only [Par.Gives]
                go_simp
                all_goals exact HR.out
              · have HR := Lib.hid hR
                have y0 := bel_cell hR k0
                have y1 := bel_cell hR k1
                have y2 := bel_cell hR k2
                have y3 := bel_cell hR k3
                clear hR
                simp only [Par.Gives]
                go_simp
                all_goals exact HR.out
              · have HR := Lib.hid hR
                clear hR
                simp only [Par.Gives]
                go_simp
                all_goals exact HR.out
              · have HR := Lib.hid hR
                clear hR
                simp only [Par.Gives]
                go_simp
                all_goals exact HR.out
              · have HR := Lib.hid hR
                clear hR
                simp only [Par.Gives]
                go_simp
                all_goals exact HR.out
              · have HR := Lib.hid hR
                clear hR
                simp only [Par.Gives]
                go_simp
                all_goals exact HR.out
              · have HR := Lib.hid hR
                have y := bel_cell hR k2
                clear hR
                simp only [Par.Gives]
                go_simp
                all_goals exact HR.out
              · have HR := Lib.hid hR
                clear hR
                simp only [Par.Gives]
                go_simp
                exact (HCO.out w' HR.out).mono (fun e w'' ⟨he, hb⟩ => ⟨he, below_on HR.out hb⟩)
              · have HR := Lib.hid hR
                clear hR
                simp only [Par.Gives]
                go_simp
                all_goals exact HR.out
              · have HR := Lib.hid hR
                clear hR
                simp only [Par.Gives]
                go_simp
                all_goals exact HR.out
              · have HR := Lib.hid hR
                have y := bel_cell hR g1
                clear hR
                simp only [Par.Gives]
                go_simp
                all_goals exact HR.out
              · have HR := Lib.hid hR
                clear hR
                simp only [Par.Gives]
                go_simp
                all_goals exact HR.out
              · have HR := Lib.hid hR
                have y := bel_cell hR u2
                clear hR
                simp only [Par.Gives]
                go_simp
                all_goals exact HR.out
              · have HR := Lib.hid hR
                clear hR
                simp only [Par.Gives]
                go_simp
                all_goals exact HR.out
              · have HR := Lib.hid hR
                clear hR
                simp only [Par.Gives]
                go_simp
                all_goals exact HR.out
              · have HR := Lib.hid hR
                clear hR
                simp only [Par.Gives]
                go_simp
                all_goals exact HR.out
              · have HR := Lib.hid hR
                have y := bel_cell hR c1
                clear hR
                simp only [Par.Gives]
                go_simp
                all_goals exact HR.out
              · have HR := Lib.hid hR
                clear hR
                simp only [Par.Gives]
                go_simp
                all_goals exact HR.out
            case hT2 =>
              intro w' hR
              simp only [List.drop_succ_cons, List.drop_nil]
              go_wp2_with fail
              go_ret
              exact ⟨ret_int HG.out.symm, hB2.out ▸ (HI2.out.2.on hR).tb.below⟩
        · go_wp2_with fail
          go_ret
          exact ⟨ret_int (by rw [HL3.out]; exact (firstErr_none _ (fun x hx => by rw [List.getElem_map]; rw [List.length_map] at hx; exact HI2.out.1 x hx (by have := HN.out.1; omega))).symm), hB2.out ▸ HI2.out.2.tb.below⟩
end Go.Proofs.YtmfkkpogmmoflaaGreat
