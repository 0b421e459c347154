/- The reference's Set.Runs. -/
import Derived.Test.YtpdidlnbeahanaaQ3
import Derived.BigQuiet
namespace Go.Proofs.Ytpdidlnbeahanaa
open Go Go.RowKit Go.Shelf Go.Proofs

theorem app_pair (y : World) (base : Nat) {v : Value} {n : Nat} {L : List R2} (hr : HRow y base 43 2 v n (cells2 L)) (hm : n + 1 ≤ 1000000) (hb : base ≤ y.heap.size) (f t : Int) :
    ∃ g cap w', (Builtin.append_ #[42, 42] 42 #[v, .slice (some ⟨y.heap.size, 0, none⟩) 1 1]).run Try.prog (y.alloc (.cells #[(Value.int .i64 (f)), (Value.int .i64 (t))] 43)) = .ok (.slice (some ⟨g, 0, none⟩) (n + 1) cap) w' ∧
      HRow w' base 43 2 (.slice (some ⟨g, 0, none⟩) (n + 1) cap) (n + 1) (cells2 (L ++ [(f, t)])) ∧ Below base y w' := by
  obtain ⟨i0, hi0, hz0, hz1, hz2⟩ := info_parts info43
  have hh := heap_alloc_new y (.cells #[(Value.int .i64 (f)), (Value.int .i64 (t))] 43)
  have hr2 := hr.later (below_alloc y (.cells #[(Value.int .i64 (f)), (Value.int .i64 (t))] 43))
  obtain ⟨g, cap, w', h1, h2, h3, h4⟩ := run_append_has (P := Try.prog) (y.alloc (.cells #[(Value.int .i64 (f)), (Value.int .i64 (t))] 43)) base 42 42 43 i0 _ 2 16 Try.underlying42 hi0 hz0 hz1 hz2 rfl (by decide) hr2 ⟨y.heap.size, 0, none⟩ 1 1 [(Value.int .i64 (f)), (Value.int .i64 (t))] rfl
    (by exact World.news_of_block hh) (by simp [Value.oneCell']) (by decide) (by unfold maxLen; omega) (by omega) (by rw [World.size_alloc]; omega)
  have e : cells2 (L ++ [(f, t)]) = cells2 L ++ [(Value.int .i64 (f)), (Value.int .i64 (t))] := by rw [cells2_append]; rfl
  rw [e]
  exact ⟨g, cap, w', h1, h2, ((below_alloc y _).mono hb).trans (below_row hr2 h3 (Nat.le_refl _) (by rw [World.size_alloc]; omega))⟩
theorem cells2_put (k : List R2) (r : R2) (c : Int) : (cells2 (k ++ [r])).set (k.length * 2 + 1) (.int .i64 c) = cells2 (k ++ [(r.1, c)]) := by
  rw [cells2_append, cells2_append, List.set_append_right _ _ (by rw [cells2_len]; omega), cells2_len, show k.length * 2 + 1 - k.length * 2 = 1 by omega]
  simp [cells2]
theorem inB_out {x : Int} (h : inB x = true) : 0 ≤ x ∧ x ≤ 65535 := by
  have := of_decide_eq_true h
  omega

set_option maxRecDepth 100000 in
set_option maxHeartbeats 4000000 in
theorem refruns_any (xs : List Int) (p : Option Addr) (n cap : Nat) (W : World) (hn : xs.length = n) (hl : n ≤ 100000) (hs : xs.Pairwise (· < ·)) (hb : ∀ x ∈ xs, inB x = true) (hP : Rd W p xs) :
    Calls Try.prog 33 #[.slice p n cap] W (RunsAre (ofL xs) W) := by
  obtain ⟨B, hB⟩ : ∃ B, W.heap.size = B := ⟨_, rfl⟩
  have HN := Lib.hid (And.intro hn (And.intro hs (And.intro hb (And.intro hP hB))))
  clear hP hs hb hn hB
  go_enter Try.func33, Try.ntmps33
  go_wp2_with fail
  go_loopg [3, 4] (n + 1) (fun gh ov kv w => ∃ (i : Nat) (out : List R2), i ≤ n ∧ n + 1 ≤ i + gh ∧ kv = .int .i64 (i : Int) ∧ out = ofL (xs.take i) ∧ out.length ≤ i ∧ (∀ (h : 0 < i ∧ i ≤ xs.length), ∃ k r, out = k ++ [r] ∧ r.2 = xs[i - 1]'(by omega) + 1) ∧ HRow w B 43 2 ov out.length (cells2 out) ∧ Below B W w)
  case atStart => exact ⟨0, [], Nat.zero_le _, by omega, rfl, rfl, Nat.le_refl _, fun h => absurd h.1 (by omega), HRow.nil, .refl _ W⟩
  case round =>
    obtain ⟨i, out, hin, hig, rfl, hout, hol, hlast, hR, hbel⟩ := hrel
    obtain ⟨m, hm⟩ : ∃ m, out.length = m := ⟨_, rfl⟩
    rw [hm] at hR hol
    obtain ⟨pl, cl, rfl, hc, hcm⟩ := hR.isslice
    by_cases hlt : i < n
    · have hix : i < xs.length := by rw [HN.out.1]; exact hlt
      obtain ⟨b, off, rfl, hbW, c0⟩ := HN.out.2.2.2.1 i hix
      obtain ⟨x, hx⟩ : ∃ x, xs[i] = x := ⟨_, rfl⟩
      rw [hx] at c0
      have hBW := HN.out.2.2.2.2
      have htk : xs.take (i + 1) = xs.take i ++ [x] := by rw [List.take_succ_eq_append_getElem hix, hx]
      have c0 : wr.cell? ⟨b, off + i, none⟩ = some (Value.int .i64 (x)) := (World.cell?_of_block (w := W) (hbel.block b (by omega))).trans c0
      have hxb := inB_out (HN.out.2.2.1 x (by rw [← hx]; exact List.getElem_mem _))
      have hBs : B ≤ wr.heap.size := by have := hbel.size; omega
      have hwx : IntKind.i64.wrap (x + 1) = x + 1 := by rw [IntKind.wrap_i64]; omega
      by_cases htouch : ∃ h : 0 < i, x = xs[i - 1]'(by omega) + 1
      · obtain ⟨hi0, hxe⟩ := htouch
        obtain ⟨i', rfl⟩ : ∃ i', i = i' + 1 := ⟨i - 1, by omega⟩
        obtain ⟨k, r, hkr, hre⟩ := hlast ⟨hi0, by omega⟩
        simp only [Nat.add_sub_cancel] at hxe hre
        obtain ⟨b', off', hbo, _, c1'⟩ := HN.out.2.2.2.1 i' (by omega)
        cases hbo
        have c1 : wr.cell? ⟨b, off + i', none⟩ = some (Value.int .i64 (xs[i'])) := (World.cell?_of_block (w := W) (hbel.block b (by omega))).trans c1'
        clear c1'
        obtain ⟨y, hy⟩ : ∃ y, xs[i'] = y := ⟨_, rfl⟩
        rw [hy] at c1 hxe hre
        subst hkr
        obtain ⟨f, t⟩ := r
        obtain ⟨q, hq⟩ : ∃ q, k.length = q := ⟨_, rfl⟩
        have hmq : m = q + 1 := by rw [← hm, ← hq]; simp
        subst hmq
        obtain ⟨g, cl', e, _, _⟩ := hR.slice (by omega)
        cases e
        have d1 := hR.cell (cells2_at (k ++ [(f, t)]) q (f, t) (by rw [← hq]; simp)).2
        have z1 := hR.frozenAt (q * 2 + 1)
        have hgB := (hR.lt g rfl)
        have hs1 := hR.stored (q * 2 + 1) (Value.int .i64 (y + 1 + 1))
        have et : t = y + 1 := hre
        subst et
        subst hxe
        have HE : Hid (ofL (xs.take (i' + 1 + 1)) = k ++ [(f, y + 1 + 1)]) := Lib.hid (by
          rw [htk, ofL_snoc, ← hout, addL_touch (by omega) (Int.le_refl _), show max (y + 1 + 1) (f, y + 1).2 = y + 1 + 1 by show max (y + 1 + 1) (y + 1) = y + 1 + 1; omega])
        have eset := cells2_put k (f, y + 1) (y + 1 + 1)
        rw [hq] at eset
        rw [eset] at hs1
        have HK := Lib.hid (And.intro hx (And.intro hq (And.intro hs1 (And.intro hbel (And.intro hgB.1 hBs)))))
        have q0 : ∀ u, (wr.drewN u).cell? ⟨b, off + (i' + 1), none⟩ = some (Value.int .i64 (y + 1)) := fun u => c0
        have q1 : ∀ u, (wr.drewN u).cell? ⟨b, off + i', none⟩ = some (Value.int .i64 (y)) := fun u => c1
        have hd0 : decide ((0 : Int) < ((i' + 1 : Nat) : Int)) = true := decide_eq_true (by omega)
        have hwa : IntKind.i64.wrap (i' : Int) = (i' : Int) := by rw [IntKind.wrap_i64]; omega
        have hwq : IntKind.i64.wrap (q : Int) = (q : Int) := by rw [IntKind.wrap_i64]; omega
        have hwy : IntKind.i64.wrap (y + 1) = y + 1 := by rw [IntKind.wrap_i64]; omega
        have hi'n : i' < n := by omega
        have hb2 : (i' : Int) < (n : Int) := by omega
        have e1 : decide (y + 1 = y + 1) = true := decide_eq_true rfl
        have x1 : (q : Int) < (q : Int) + 1 := by omega
        have x2 : q < q + 1 := by omega
        have x3 : (q : Int) < ((q + 1 : Nat) : Int) := by omega
        clear hs1 eset hx hy hm hout hlast hR htk hbel hq hBW
        go_wp2_with fail
        go_quiet (fail)
        obtain ⟨w5, hw5⟩ : ∃ w5, wr.drewN nq = w5 := ⟨_, rfl⟩
        have d5 : w5.cell? ⟨g, q * 2 + 1, none⟩ = some (Value.int .i64 (y + 1)) := by rw [← hw5]; exact d1
        have z5 : w5.frozen? ⟨g, q * 2 + 1, none⟩ = false := by rw [← hw5]; exact z1
        rw [hw5]
        go_wp2_with fail
        go_region_law (fail)
        all_goals
          go_wp2_with fail
          go_roundg (n - (i' + 1))
          case measure => omega
          case rel => exact ⟨i' + 1 + 1, k ++ [(f, y + 1 + 1)], by omega, by omega, by simp, HE.out.symm, by rw [List.length_append, HK.out.2.1]; simp; omega, fun h => ⟨k, (f, y + 1 + 1), rfl, by simp only [Nat.add_sub_cancel]; rw [HK.out.1]⟩, by
            rw [List.length_append, HK.out.2.1, ← hw5]
            refine HRow.of HK.out.2.2.1.1 (fun k hk => ?_)
            show ((wr.drewN nq).setCell _ _).drew.heap[k]? = _
            simp [World.setCell]
            rfl, by
            rw [← hw5]
            exact HK.out.2.2.2.1.trans ((((below_drewN wr nq).mono HK.out.2.2.2.2.2).setCell HK.out.2.2.2.2.1 _).drew)⟩
      · have HE : Hid (ofL (xs.take (i + 1)) = out ++ [(x, x + 1)]) := Lib.hid (by
          rw [htk, ofL_snoc, ← hout]
          by_cases hi0 : 0 < i
          · obtain ⟨k, r, hkr, hre⟩ := hlast ⟨hi0, by omega⟩
            have hxy : xs[i - 1]'(by omega) < xs[i] := List.pairwise_iff_getElem.1 HN.out.2.1 (i - 1) i (by omega) hix (by omega)
            rw [hkr]
            refine addL_apart (by omega) ?_
            have hne : x ≠ xs[i - 1]'(by omega) + 1 := fun e => htouch ⟨hi0, e⟩
            omega
          · have e0 : i = 0 := by omega
            subst e0
            rw [hout]
            exact addL_nil (by omega))
        have HAP := fun (w : World) (hw : Below wr.heap.size wr w) => app_pair w B (hR.later hw) (by omega) (by have := hw.size; omega) x (x + 1)
        have q0 : ∀ u, (wr.drewN u).cell? ⟨b, off + i, none⟩ = some (Value.int .i64 (x)) := fun u => c0
        have HK := Lib.hid (And.intro hx (And.intro hm (And.intro hbel hBs)))
        have HAP := Lib.hid HAP
        by_cases hi0 : 0 < i
        · obtain ⟨i', rfl⟩ : ∃ i', i = i' + 1 := ⟨i - 1, by omega⟩
          obtain ⟨b', off', hbo, _, c1'⟩ := HN.out.2.2.2.1 i' (by omega)
          cases hbo
          have c1 : wr.cell? ⟨b, off + i', none⟩ = some (Value.int .i64 (xs[i'])) := (World.cell?_of_block (w := W) (hbel.block b (by omega))).trans c1'
          clear c1'
          have hyb := inB_out (HN.out.2.2.1 xs[i'] (List.getElem_mem _))
          have hne : ¬ x = xs[i'] + 1 := fun e => htouch ⟨hi0, by simpa using e⟩
          obtain ⟨y, hy⟩ : ∃ y, xs[i'] = y := ⟨_, rfl⟩
          rw [hy] at c1 hyb hne
          have q1 : ∀ u, (wr.drewN u).cell? ⟨b, off + i', none⟩ = some (Value.int .i64 (y)) := fun u => c1
          have hd0 : decide ((0 : Int) < ((i' + 1 : Nat) : Int)) = true := decide_eq_true (by omega)
          have hwa : IntKind.i64.wrap (i' : Int) = (i' : Int) := by rw [IntKind.wrap_i64]; omega
          have hwy : IntKind.i64.wrap (y + 1) = y + 1 := by rw [IntKind.wrap_i64]; omega
          have h0i : (0 : Int) ≤ (i' : Int) + 1 := by omega
          have hb2 : (i' : Int) < (n : Int) := by omega
          have e1 : decide (x = y + 1) = false := decide_eq_false hne
          clear hR hx hy hm hout hlast htk hbel hBs htouch hBW hyb
          go_wp2_with fail
          go_quiet (fail)
          obtain ⟨w5, hw5⟩ : ∃ w5, wr.drewN nq = w5 := ⟨_, rfl⟩
          have hb5 : Below wr.heap.size wr w5 := by rw [← hw5]; exact below_drewN wr nq
          have c5 : w5.cell? ⟨b, off + (i' + 1), none⟩ = some (Value.int .i64 (x)) := by rw [← hw5]; exact c0
          obtain ⟨g, cap', w6, hrun, r6, b6⟩ := HAP.out w5.drew hb5.drew
          have HF := Lib.hid (And.intro r6 (HK.out.2.2.1.trans ((hb5.drew.mono HK.out.2.2.2).trans b6)))
          clear r6 b6 hb5
          rw [hw5]
          go_wp2_with fail
          go_region_law (refine step_append_run rfl (.tmp 36) (.tmp 47) 42 rfl rfl rfl hrun ?_)
          all_goals
            go_wp2_with fail
            go_roundg (n - (i' + 1))
            case measure => omega
            case rel => exact ⟨i' + 1 + 1, out ++ [(x, x + 1)], by omega, by omega, by simp, HE.out.symm, by rw [List.length_append, HK.out.2.1]; simp; omega, fun h => ⟨out, (x, x + 1), rfl, by simp only [Nat.add_sub_cancel]; rw [HK.out.1]⟩, by rw [List.length_append, HK.out.2.1]; exact HF.out.1, HF.out.2⟩
        · obtain rfl : i = 0 := by omega
          clear hR hx hm hout hlast htk hbel hBs htouch hBW hi0
          go_wp2_with fail
          go_quiet (fail)
          obtain ⟨w5, hw5⟩ : ∃ w5, wr.drewN nq = w5 := ⟨_, rfl⟩
          have hb5 : Below wr.heap.size wr w5 := by rw [← hw5]; exact below_drewN wr nq
          have c5 : w5.cell? ⟨b, off + 0, none⟩ = some (Value.int .i64 (x)) := by rw [← hw5]; exact c0
          have c5' : w5.cell? ⟨b, off, none⟩ = some (Value.int .i64 (x)) := c5
          obtain ⟨g, cap', w6, hrun, r6, b6⟩ := HAP.out w5.drew hb5.drew
          have HF := Lib.hid (And.intro r6 (HK.out.2.2.1.trans ((hb5.drew.mono HK.out.2.2.2).trans b6)))
          clear r6 b6 hb5
          rw [hw5]
          go_wp2_with fail
          go_region_law (refine step_append_run rfl (.tmp 36) (.tmp 47) 42 rfl rfl rfl hrun ?_)
          all_goals
            go_wp2_with fail
            go_roundg (n - 0)
            case measure => omega
            case rel => exact ⟨0 + 1, out ++ [(x, x + 1)], by omega, by omega, by simp, HE.out.symm, by rw [List.length_append, HK.out.2.1]; simp; omega, fun h => ⟨out, (x, x + 1), rfl, by simp only [Nat.add_sub_cancel]; rw [HK.out.1]⟩, by rw [List.length_append, HK.out.2.1]; exact HF.out.1, HF.out.2⟩
    · have e : out = ofL xs := by rw [hout, List.take_of_length_le (by rw [HN.out.1]; omega)]
      have HE : Hid (RunsAre (ofL xs) W (.returned (.slice pl m cl)) wr) := Lib.hid ⟨_, rfl, by
        rw [← e]
        unfold Rp
        rw [hm]
        exact HRow.mono hR (Nat.zero_le _), by rw [HN.out.2.2.2.2]; exact hbel⟩
      clear e hR hlast hout hbel hm
      go_wp2_with fail
      go_ret
      exact HE.out
end Go.Proofs.Ytpdidlnbeahanaa
