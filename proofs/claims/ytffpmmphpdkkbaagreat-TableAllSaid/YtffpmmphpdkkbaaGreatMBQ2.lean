/- The reference's Has; append of a whole list; mix. mix. The reference's Set.Runs. -/
import Derived.Test.YtffpmmphpdkkbaaGreatMBM
import Derived.BigQuiet
namespace Go.Proofs.YtffpmmphpdkkbaaGreat
open Go Go.RowKit Go.Shelf Go.Proofs

set_option maxRecDepth 100000 in
set_option maxHeartbeats 1000000 in
theorem sethas_any (xs : List Int) (p : Option Addr) (n cap : Nat) (W : World) (hn : xs.length = n) (h1000 : n ≤ 1000000) (hP : Rd W p xs) (i : Int) (b : Bool) (hb : b = true ↔ i ∈ xs) : Calls Tryz.prog 51 #[.slice p n cap, (Value.int .i64 (i))] W fun e w' => e = .returned (.bool b) ∧ w' = W := by
  have HN := Lib.hid (And.intro hn hb)
  clear hb
  go_enter Tryz.func51, Tryz.ntmps51
  go_wp2_with fail
  go_loopg [5] (n + 1) (fun gh jv w => ∃ j : Nat, jv = .int .i64 (j : Int) ∧ j ≤ n ∧ n + 1 ≤ j + gh ∧ (∀ k (_ : k < xs.length), k < j → xs[k] ≠ i) ∧ w = W)
  case atStart => exact ⟨0, rfl, Nat.zero_le _, by omega, fun k _ h => absurd h (Nat.not_lt_zero k), rfl⟩
  case round =>
    obtain ⟨j, rfl, hj, hg, hno, rfl⟩ := hrel
    by_cases hlt : j < n
    · have hjx : j < xs.length := by omega
      obtain ⟨bk, off, rfl, hbW, c0⟩ := hP j hjx
      obtain ⟨x, hx⟩ : ∃ x, xs[j] = x := ⟨_, rfl⟩
      rw [hx] at c0
      have HX := Lib.hid (And.intro hx hno)
      clear hx hno hP
      by_cases he : x = i
      · subst he
        go_wp2_with fail
        go_ret
        exact ⟨ret_bool (by symm; exact HN.out.2.2 (by rw [← HX.out.1]; exact List.getElem_mem _)), rfl⟩
      · have hb : (x == i) = false := beq_eq_false_iff_ne.2 he
        go_wp2_with fail
        go_roundg (n - j)
        case measure => omega
        case rel => exact ⟨j + 1, by go_num, by omega, by omega, fun k hk hkj => by
          by_cases e : k = j
          · subst e; rw [HX.out.1]; exact he
          · exact HX.out.2 k hk (by omega), rfl⟩
    · have HH := Lib.hid hno
      clear hno hP
      go_wp2_with fail
      go_ret
      refine ⟨ret_bool ?_, rfl⟩
      symm
      rw [Bool.eq_false_iff]
      intro h
      obtain ⟨k, hk, e⟩ := List.mem_iff_getElem.1 (HN.out.2.1 h)
      exact HH.out k hk (by rw [HN.out.1] at hk; omega) e

/-! ### append of a list to one's own -/
theorem append_types {P : Program} {w : World} {t u e e' ty : TypeId} {p q : Option Addr} {n c m d : Nat} (ht : P.underlying t = some (.slice e)) (hu : P.underlying u = some (.slice e')) : (Builtin.append_ #[t, u] ty #[.slice p n c, .slice q m d]).run P w = (Builtin.append_ #[t, t] ty #[.slice p n c, .slice q m d]).run P w := by
  unfold Builtin.append_
  simp [run_underlying ht, run_underlying hu]
theorem append_zero {P : Program} {w : World} {t e ty : TypeId} {i : TypeInfo} {p q : Option Addr} {n c d : Nat} (ht : P.underlying t = some (.slice e)) (hi : P.info? e = some i) (hn : n ≤ c) : (Builtin.append_ #[t, t] ty #[.slice p n c, .slice q 0 d]).run P w = .ok (.slice p n c) w := by
  cases p <;> cases q <;> simp [Builtin.append_, run_underlying ht, Builtin.lenOf, Builtin.firstCells, sizeOf, typeInfo, hi, hn, loadCells, loadCellsFrom, storeCells]
end Go.Proofs.YtffpmmphpdkkbaaGreat
namespace Go.Proofs.YtffpmmphpdkkbaaGreat
open Go Go.RowKit Go.Shelf Go.Proofs

theorem app_all {u : TypeId} (hu : Tryz.prog.underlying u = some (.slice 3)) (y : World) (base : Nat) {p : Option Addr} {n c : Nat} {xs : List Int} (hn : xs.length = n) (hr : Ro y base (.slice p n c) xs) {q : Option Addr} {m d : Nat} {ys : List Int} (hm : ys.length = m) (hs : Rd y q ys) (hnm : n + m ≤ 1000000) (hb : base ≤ y.heap.size) :
    ∃ p' c' w', (Builtin.append_ #[35, u] 35 #[.slice p n c, .slice q m d]).run Tryz.prog y = .ok (.slice p' (n + m) c') w' ∧ Ro w' base (.slice p' (n + m) c') (xs ++ ys) ∧ y.grownBy w' (Value.slice p n c).ownBlock := by
  subst hn hm
  obtain ⟨i0, hi0, hz0, hz1, hz2⟩ := info_parts info3
  rw [append_types Tryz.underlying35 hu]
  rcases List.eq_nil_or_concat ys with rfl | ⟨k, r, e⟩
  · refine ⟨p, c, y, append_zero Tryz.underlying35 hi0 (by obtain ⟨p2, c2, e, h, _⟩ := HRow.isslice hr; cases e; exact h), by rw [List.append_nil]; exact hr, ⟨rfl, rfl, rfl, Nat.le_refl _, fun _ _ _ => rfl⟩⟩
  · have hpos : 0 < ys.length := by rw [e, List.length_concat]; omega
    obtain ⟨b, off, rfl, _, _⟩ := hs 0 hpos
    obtain ⟨g, cap, w', h1, h2, h3, h4⟩ := run_append_has (P := Tryz.prog) y base 35 35 3 i0 _ 1 8 Tryz.underlying35 hi0 hz0 hz1 hz2 rfl (by decide) hr ⟨b, off, none⟩ ys.length d (ys.map iv) (by simp)
      (fun j v hj => by
        rw [List.getElem?_map] at hj
        obtain ⟨x, hx, hv⟩ := Option.map_eq_some_iff.1 hj
        obtain ⟨hjl, hx2⟩ := List.getElem?_eq_some_iff.1 hx
        obtain ⟨b', off', e2, _, c0⟩ := hs j hjl
        cases e2
        have ea : (⟨b, off, none⟩ : Addr).add j = ⟨b, off + j, none⟩ := by
          unfold Addr.add
          split
          · rename_i h; subst h; rfl
          · rfl
        rw [ea, c0, ← hv, hx2]) (by
        intro v hv
        obtain ⟨x, _, rfl⟩ := List.mem_map.1 hv
        rfl) hpos (by unfold maxLen; omega) (by omega) hb
    exact ⟨_, cap, w', h1, by unfold Ro; rw [List.map_append, List.length_append]; exact h2, h3⟩
theorem wpList_append_run2 {P : Program} {w w' : World} {ops : Array Oper} {rest : List Oper} {o : Oper} {a : Act} {Q : Exit → Act → World → Prop} {vs vx v' : Value} (hgd : o.guard = none) (s x : Operand) (t u : TypeId)
    (ho : o.op = .call { callee := .builtin .append, args := #[s, x], argTypes := #[t, u] }) (hs : a.eval s = vs) (hx : a.eval x = vx)
    (hr : (Builtin.append_ #[t, u] o.type #[vs, vx]).run P w = .ok v' w')
    (h : wpList P ops Q rest (a.put o.dst v') w') : wpList P ops Q (o :: rest) a w :=
  wpList_plain hgd fun _ hK => by
    unfold Oper.wp execOp
    simp only [ho, resolve, invoke, builtin, Sem.run_bind, Sem.run_pure, Result.andThen_ok, List.map_toArray, List.map_cons, List.map_nil, hs, hx, hr]
    exact hK _ _ h
/-- Those of A and B of which the rule says yes, in order, in a row of the call's own. -/
def MixR (r : Bool → Bool → Bool) (A B : List Int) (W : World) (e : Ending) (w' : World) : Prop := ∃ (out : List Int) (v : Value), out.Pairwise (· < ·) ∧ (∀ s, s ∈ out ↔ (s ∈ A ∨ s ∈ B) ∧ r (decide (s ∈ A)) (decide (s ∈ B)) = true) ∧ e = .returned v ∧ HRow w' 0 3 1 v out.length (out.map iv) ∧ Below W.heap.size W w'

end Go.Proofs.YtffpmmphpdkkbaaGreat
namespace Go.Proofs.YtffpmmphpdkkbaaGreat
open Go Go.RowKit Go.Shelf Go.Proofs

theorem app_pair (y : World) (base : Nat) {v : Value} {n : Nat} {L : List R2} (hr : HRow y base 133 2 v n (cells2 L)) (hm : n + 1 ≤ 1000000) (hb : base ≤ y.heap.size) (f t : Int) :
    ∃ g cap w', (Builtin.append_ #[131, 131] 131 #[v, .slice (some ⟨y.heap.size, 0, none⟩) 1 1]).run Tryz.prog (y.alloc (.cells #[(Value.int .i64 (f)), (Value.int .i64 (t))] 133)) = .ok (.slice (some ⟨g, 0, none⟩) (n + 1) cap) w' ∧
      HRow w' base 133 2 (.slice (some ⟨g, 0, none⟩) (n + 1) cap) (n + 1) (cells2 (L ++ [(f, t)])) ∧ Below base y w' := by
  obtain ⟨i0, hi0, hz0, hz1, hz2⟩ := info_parts info43
  have hh := heap_alloc_new y (.cells #[(Value.int .i64 (f)), (Value.int .i64 (t))] 133)
  have hr2 := hr.later (below_alloc y (.cells #[(Value.int .i64 (f)), (Value.int .i64 (t))] 133))
  obtain ⟨g, cap, w', h1, h2, h3, h4⟩ := run_append_has (P := Tryz.prog) (y.alloc (.cells #[(Value.int .i64 (f)), (Value.int .i64 (t))] 133)) base 131 131 133 i0 _ 2 16 Tryz.underlying131 hi0 hz0 hz1 hz2 rfl (by decide) hr2 ⟨y.heap.size, 0, none⟩ 1 1 [(Value.int .i64 (f)), (Value.int .i64 (t))] rfl
    (by exact World.news_of_block hh) (by simp [Value.oneCell']) (by decide) (by unfold maxLen; omega) (by omega) (by rw [World.size_alloc]; omega)
  have e : cells2 (L ++ [(f, t)]) = cells2 L ++ [(Value.int .i64 (f)), (Value.int .i64 (t))] := by rw [cells2_append]; rfl
  rw [e]
  exact ⟨g, cap, w', h1, h2, ((below_alloc y _).mono hb).trans (below_row hr2 h3 (Nat.le_refl _) (by rw [World.size_alloc]; omega))⟩
theorem cells2_put (k : List R2) (r : R2) (c : Int) : (cells2 (k ++ [r])).set (k.length * 2 + 1) (.int .i64 c) = cells2 (k ++ [(r.1, c)]) := by
  rw [cells2_append, cells2_append, List.set_append_right _ _ (by rw [cells2_len]; omega), cells2_len, show k.length * 2 + 1 - k.length * 2 = 1 by omega]
  simp [cells2]
theorem inB_out {x : Int} (h : inB x = true) : 0 ≤ x ∧ x ≤ 65535 := by
  have := of_decide_eq_true h
  omega

set_option maxRecDepth 100000 in
set_option maxHeartbeats 4000000 in
theorem refruns_any (xs : List Int) (p : Option Addr) (n cap : Nat) (W : World) (hn : xs.length = n) (hl : n ≤ 100000) (hs : xs.Pairwise (· < ·)) (hb : ∀ x ∈ xs, inB x = true) (hP : Rd W p xs) :
    Calls Tryz.prog 77 #[.slice p n cap] W (RunsAre (ofL xs) W) := by
  obtain ⟨B, hB⟩ : ∃ B, W.heap.size = B := ⟨_, rfl⟩
  have HN := Lib.hid (And.intro hn (And.intro hs (And.intro hb (And.intro hP hB))))
  clear hP hs hb hn hB
  go_enter Tryz.func77, Tryz.ntmps77
  go_wp2_with fail
  go_loopg [3, 4] (n + 1) (fun gh ov kv w => ∃ (i : Nat) (out : List R2), i ≤ n ∧ n + 1 ≤ i + gh ∧ kv = .int .i64 (i : Int) ∧ out = ofL (xs.take i) ∧ out.length ≤ i ∧ (∀ (h : 0 < i ∧ i ≤ xs.length), ∃ k r, out = k ++ [r] ∧ r.2 = xs[i - 1]'(by omega) + 1) ∧ HRow w B 133 2 ov out.length (cells2 out) ∧ Below B W w)
  case atStart => exact ⟨0, [], Nat.zero_le _, by omega, rfl, rfl, Nat.le_refl _, fun h => absurd h.1 (by omega), HRow.nil, .refl _ W⟩
  case round =>
    obtain ⟨i, out, hin, hig, rfl, hout, hol, hlast, hR, hbel⟩ := hrel
    obtain ⟨m, hm⟩ : ∃ m, out.length = m := ⟨_, rfl⟩
    rw [hm] at hR hol
    obtain ⟨pl, cl, rfl, hc, hcm⟩ := hR.isslice
    by_cases hlt : i < n
    · have hix : i < xs.length := by rw [HN.out.1]; exact hlt
      obtain ⟨b, off, rfl, hbW, c0⟩ := HN.out.2.2.2.1 i hix
      obtain ⟨x, hx⟩ : ∃ x, xs[i] = x := ⟨_, rfl⟩
      rw [hx] at c0
      have hBW := HN.out.2.2.2.2
      have htk : xs.take (i + 1) = xs.take i ++ [x] := by rw [List.take_succ_eq_append_getElem hix, hx]
      have c0 : wr.cell? ⟨b, off + i, none⟩ = some (Value.int .i64 (x)) := (World.cell?_of_block (w := W) (hbel.block b (by omega))).trans c0
      have hxb := inB_out (HN.out.2.2.1 x (by rw [← hx]; exact List.getElem_mem _))
      have hBs : B ≤ wr.heap.size := by have := hbel.size; omega
      have hwx : IntKind.i64.wrap (x + 1) = x + 1 := by rw [IntKind.wrap_i64]; omega
      by_cases htouch : ∃ h : 0 < i, x = xs[i - 1]'(by omega) + 1
      · obtain ⟨hi0, hxe⟩ := htouch
        obtain ⟨i', rfl⟩ : ∃ i', i = i' + 1 := ⟨i - 1, by omega⟩
        obtain ⟨k, r, hkr, hre⟩ := hlast ⟨hi0, by omega⟩
        simp only [Nat.add_sub_cancel] at hxe hre
        obtain ⟨b', off', hbo, _, c1'⟩ := HN.out.2.2.2.1 i' (by omega)
        cases hbo
        have c1 : wr.cell? ⟨b, off + i', none⟩ = some (Value.int .i64 (xs[i'])) := (World.cell?_of_block (w := W) (hbel.block b (by omega))).trans c1'
        clear c1'
        obtain ⟨y, hy⟩ : ∃ y, xs[i'] = y := ⟨_, rfl⟩
        rw [hy] at c1 hxe hre
        subst hkr
        obtain ⟨f, t⟩ := r
        obtain ⟨q, hq⟩ : ∃ q, k.length = q := ⟨_, rfl⟩
        have hmq : m = q + 1 := by rw [← hm, ← hq]; simp
        subst hmq
        obtain ⟨g, cl', e, _, _⟩ := hR.slice (by omega)
        cases e
        have d1 := hR.cell (cells2_at (k ++ [(f, t)]) q (f, t) (by rw [← hq]; simp)).2
        have z1 := hR.frozenAt (q * 2 + 1)
        have hgB := (hR.lt g rfl)
        have hs1 := hR.stored (q * 2 + 1) (Value.int .i64 (y + 1 + 1))
        have et : t = y + 1 := hre
        subst et
        subst hxe
        have HE : Hid (ofL (xs.take (i' + 1 + 1)) = k ++ [(f, y + 1 + 1)]) := Lib.hid (by
          rw [htk, ofL_snoc, ← hout, addL_touch (by omega) (Int.le_refl _), show max (y + 1 + 1) (f, y + 1).2 = y + 1 + 1 by show max (y + 1 + 1) (y + 1) = y + 1 + 1; omega])
        have eset := cells2_put k (f, y + 1) (y + 1 + 1)
        rw [hq] at eset
        rw [eset] at hs1
        have HK := Lib.hid (And.intro hx (And.intro hq (And.intro hs1 (And.intro hbel (And.intro hgB.1 hBs)))))
        have q0 : ∀ u, (wr.drewN u).cell? ⟨b, off + (i' + 1), none⟩ = some (Value.int .i64 (y + 1)) := fun u => c0
        have q1 : ∀ u, (wr.drewN u).cell? ⟨b, off + i', none⟩ = some (Value.int .i64 (y)) := fun u => c1
        have hd0 : decide ((0 : Int) < ((i' + 1 : Nat) : Int)) = true := decide_eq_true (by omega)
        have hwa : IntKind.i64.wrap (i' : Int) = (i' : Int) := by rw [IntKind.wrap_i64]; omega
        have hwq : IntKind.i64.wrap (q : Int) = (q : Int) := by rw [IntKind.wrap_i64]; omega
        have hwy : IntKind.i64.wrap (y + 1) = y + 1 := by rw [IntKind.wrap_i64]; omega
        have hi'n : i' < n := by omega
        have hb2 : (i' : Int) < (n : Int) := by omega
        have e1 : decide (y + 1 = y + 1) = true := decide_eq_true rfl
        have x1 : (q : Int) < (q : Int) + 1 := by omega
        have x2 : q < q + 1 := by omega
        have x3 : (q : Int) < ((q + 1 : Nat) : Int) := by omega
        clear hs1 eset hx hy hm hout hlast hR htk hbel hq hBW
        go_wp2_with fail
        go_quiet (fail)
        obtain ⟨w5, hw5⟩ : ∃ w5, wr.drewN nq = w5 := ⟨_, rfl⟩
        have d5 : w5.cell? ⟨g, q * 2 + 1, none⟩ = some (Value.int .i64 (y + 1)) := by rw [← hw5]; exact d1
        have z5 : w5.frozen? ⟨g, q * 2 + 1, none⟩ = false := by rw [← hw5]; exact z1
        rw [hw5]
        go_wp2_with fail
        go_region_law (fail)
        all_goals
          go_wp2_with fail
          go_roundg (n - (i' + 1))
          case measure => omega
          case rel => exact ⟨i' + 1 + 1, k ++ [(f, y + 1 + 1)], by omega, by omega, by simp, HE.out.symm, by rw [List.length_append, HK.out.2.1]; simp; omega, fun h => ⟨k, (f, y + 1 + 1), rfl, by simp only [Nat.add_sub_cancel]; rw [HK.out.1]⟩, by
            rw [List.length_append, HK.out.2.1, ← hw5]
            refine HRow.of HK.out.2.2.1.1 (fun k hk => ?_)
            show ((wr.drewN nq).setCell _ _).drew.heap[k]? = _
            simp [World.setCell]
            rfl, by
            rw [← hw5]
            exact HK.out.2.2.2.1.trans ((((below_drewN wr nq).mono HK.out.2.2.2.2.2).setCell HK.out.2.2.2.2.1 _).drew)⟩
      · have HE : Hid (ofL (xs.take (i + 1)) = out ++ [(x, x + 1)]) := Lib.hid (by
          rw [htk, ofL_snoc, ← hout]
          by_cases hi0 : 0 < i
          · obtain ⟨k, r, hkr, hre⟩ := hlast ⟨hi0, by omega⟩
            have hxy : xs[i - 1]'(by omega) < xs[i] := List.pairwise_iff_getElem.1 HN.out.2.1 (i - 1) i (by omega) hix (by omega)
            rw [hkr]
            refine addL_apart (by omega) ?_
            have hne : x ≠ xs[i - 1]'(by omega) + 1 := fun e => htouch ⟨hi0, e⟩
            omega
          · have e0 : i = 0 := by omega
            subst e0
            rw [hout]
            exact addL_nil (by omega))
        have HAP := fun (w : World) (hw : Below wr.heap.size wr w) => app_pair w B (hR.later hw) (by omega) (by have := hw.size; omega) x (x + 1)
        have q0 : ∀ u, (wr.drewN u).cell? ⟨b, off + i, none⟩ = some (Value.int .i64 (x)) := fun u => c0
        have HK := Lib.hid (And.intro hx (And.intro hm (And.intro hbel hBs)))
        have HAP := Lib.hid HAP
        by_cases hi0 : 0 < i
        · obtain ⟨i', rfl⟩ : ∃ i', i = i' + 1 := ⟨i - 1, by omega⟩
          obtain ⟨b', off', hbo, _, c1'⟩ := HN.out.2.2.2.1 i' (by omega)
          cases hbo
          have c1 : wr.cell? ⟨b, off + i', none⟩ = some (Value.int .i64 (xs[i'])) := (World.cell?_of_block (w := W) (hbel.block b (by omega))).trans c1'
          clear c1'
          have hyb := inB_out (HN.out.2.2.1 xs[i'] (List.getElem_mem _))
          have hne : ¬ x = xs[i'] + 1 := fun e => htouch ⟨hi0, by simpa using e⟩
          obtain ⟨y, hy⟩ : ∃ y, xs[i'] = y := ⟨_, rfl⟩
          rw [hy] at c1 hyb hne
          have q1 : ∀ u, (wr.drewN u).cell? ⟨b, off + i', none⟩ = some (Value.int .i64 (y)) := fun u => c1
          have hd0 : decide ((0 : Int) < ((i' + 1 : Nat) : Int)) = true := decide_eq_true (by omega)
          have hwa : IntKind.i64.wrap (i' : Int) = (i' : Int) := by rw [IntKind.wrap_i64]; omega
          have hwy : IntKind.i64.wrap (y + 1) = y + 1 := by rw [IntKind.wrap_i64]; omega
          have h0i : (0 : Int) ≤ (i' : Int) + 1 := by omega
          have hb2 : (i' : Int) < (n : Int) := by omega
          have e1 : decide (x = y + 1) = false := decide_eq_false hne
          clear hR hx hy hm hout hlast htk hbel hBs htouch hBW hyb
          go_wp2_with fail
          go_quiet (fail)
          obtain ⟨w5, hw5⟩ : ∃ w5, wr.drewN nq = w5 := ⟨_, rfl⟩
          have hb5 : Below wr.heap.size wr w5 := by rw [← hw5]; exact below_drewN wr nq
          have c5 : w5.cell? ⟨b, off + (i' + 1), none⟩ = some (Value.int .i64 (x)) := by rw [← hw5]; exact c0
          obtain ⟨g, cap', w6, hrun, r6, b6⟩ := HAP.out w5.drew hb5.drew
          have HF := Lib.hid (And.intro r6 (HK.out.2.2.1.trans ((hb5.drew.mono HK.out.2.2.2).trans b6)))
          clear r6 b6 hb5
          rw [hw5]
          go_wp2_with fail
          go_region_law (refine step_append_run rfl (.tmp 36) (.tmp 47) 131 rfl rfl rfl hrun ?_)
          all_goals
            go_wp2_with fail
            go_roundg (n - (i' + 1))
            case measure => omega
            case rel => exact ⟨i' + 1 + 1, out ++ [(x, x + 1)], by omega, by omega, by simp, HE.out.symm, by rw [List.length_append, HK.out.2.1]; simp; omega, fun h => ⟨out, (x, x + 1), rfl, by simp only [Nat.add_sub_cancel]; rw [HK.out.1]⟩, by rw [List.length_append, HK.out.2.1]; exact HF.out.1, HF.out.2⟩
        · obtain rfl : i = 0 := by omega
          clear hR hx hm hout hlast htk hbel hBs htouch hBW hi0
          go_wp2_with fail
          go_quiet (fail)
          obtain ⟨w5, hw5⟩ : ∃ w5, wr.drewN nq = w5 := ⟨_, rfl⟩
          have hb5 : Below wr.heap.size wr w5 := by rw [← hw5]; exact below_drewN wr nq
          have c5 : w5.cell? ⟨b, off + 0, none⟩ = some (Value.int .i64 (x)) := by rw [← hw5]; exact c0
          have c5' : w5.cell? ⟨b, off, none⟩ = some (Value.int .i64 (x)) := c5
          obtain ⟨g, cap', w6, hrun, r6, b6⟩ := HAP.out w5.drew hb5.drew
          have HF := Lib.hid (And.intro r6 (HK.out.2.2.1.trans ((hb5.drew.mono HK.out.2.2.2).trans b6)))
          clear r6 b6 hb5
          rw [hw5]
          go_wp2_with fail
          go_region_law (refine step_append_run rfl (.tmp 36) (.tmp 47) 131 rfl rfl rfl hrun ?_)
          all_goals
            go_wp2_with fail
            go_roundg (n - 0)
            case measure => omega
            case rel => exact ⟨0 + 1, out ++ [(x, x + 1)], by omega, by omega, by simp, HE.out.symm, by rw [List.length_append, HK.out.2.1]; simp; omega, fun h => ⟨out, (x, x + 1), rfl, by simp only [Nat.add_sub_cancel]; rw [HK.out.1]⟩, by rw [List.length_append, HK.out.2.1]; exact HF.out.1, HF.out.2⟩
    · have e : out = ofL xs := by rw [hout, List.take_of_length_le (by rw [HN.out.1]; omega)]
      have HE : Hid (RunsAre (ofL xs) W (.returned (.slice pl m cl)) wr) := Lib.hid ⟨_, rfl, by
        rw [← e]
        unfold Rp
        rw [hm]
        exact HRow.mono hR (Nat.zero_le _), by rw [HN.out.2.2.2.2]; exact hbel⟩
      clear e hR hlast hout hbel hm
      go_wp2_with fail
      go_ret
      exact HE.out
end Go.Proofs.YtffpmmphpdkkbaaGreat
