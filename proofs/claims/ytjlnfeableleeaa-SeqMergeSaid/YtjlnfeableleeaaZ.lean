import Derived.Test.YtjlnfeableleeaaZ0
import Derived.Test.YtjlnfeableleeaaX0
import Derived.IntWalk
import Derived.Deep.Cut
import Derived.Deep.QuietTactic
import Derived.BigQuiet
import Derived.Deep.RegionHeld3
namespace Go.Proofs.Ytjlnfeableleeaa
open Go Go.RowKit Go.Shelf Go.Proofs
attribute [local go_sem] eql26n eql26f eql32f eql34f eql37f eql42n eql42f wide_fn wide_depth

/-- Rows of numbers that came in. -/
def Pars (W : World) (p : Option Addr) (xs : List (List Int)) : Prop :=
  ∀ r (hr : r < xs.length), ∃ b off A m c, p = some ⟨b, off, none⟩ ∧ b < W.heap.size ∧ W.cell? ⟨b, off + r, none⟩ = some (.slice A m c) ∧ m = xs[r].length ∧
    ∀ k (hk : k < xs[r].length), ∃ b' off', A = some ⟨b', off', none⟩ ∧ b' < W.heap.size ∧ W.cell? ⟨b', off' + k, none⟩ = some (Value.int .i64 (xs[r][k]))

theorem own_vals {w : World} {D : Nat} {v : Value} {L : List (Value × List Int)} (h : w.ownsRow D 22 1 v L.length (L.map Prod.fst)) : Vals w v (L.map Prod.fst) (fun b => v.ownBlock = some b) := by
  have hat := fun g cap (hv : v = .slice (some ⟨g, 0, none⟩) L.length cap) j hj => World.ownsRow.cellAt (hv ▸ h) j hj
  rcases h.2 with ⟨h1, h2⟩ | ⟨g, cap, cur, rfl, _⟩
  · exact .inl ⟨h1, List.map_eq_nil_iff.2 (List.length_eq_zero_iff.1 h2)⟩
  · refine .inr ⟨g, 0, cap, by rw [List.length_map], rfl, fun j hj => ?_⟩
    rw [Nat.zero_add, hat g cap rfl j (by simpa using hj)]
    simp at hj
    simp [hj]
theorem lss24 : Lss (.func (.func 24) #[] #[]) key10 := fun a b w => c24 a b w
/-- Merge of what was built. -/
theorem mst_merge {D : Nat} {W w : World} {v6 v7 : Value} {L : List (Value × List Int)} {ws : List Int} (h : Mst D W w v6 v7 L ws) (hL : L.length ≤ 5) (h12 : ∀ p, p ∈ L → p.2.length ≤ 12)
    (hm : Mg key10 ((L.map Prod.snd).filter (fun l => !l.isEmpty)) ws) : Calls Try.prog 23 #[.func (.func 24) #[] #[], v6] w (Makes ws w) :=
  sq_merge _ 24 #[] key10 lss24 (.inl rfl) v6 L (by omega) (fun p hp => by have := h12 p hp; omega) _ w (own_vals h.r6) (fun b hb => (h.r6.lt b hb).2) (fun p hp => ⟨_, (h.ls p hp).ints, (h.ls p hp).lt'⟩) ws hm

set_option maxRecDepth 100000 in
set_option maxHeartbeats 4000000 in
theorem merge_walk (p : Option Addr) (xs : List (List Int)) (len cap : Nat) (n : Int) (W : World) (hlen : xs.length = len) (hP : Pars W p xs) (hn0 : -9223372036854775808 ≤ n) (hn1 : n ≤ 9223372036854775807) :
    Calls Try.prog 5 #[.slice p len cap, (Value.int .i64 (n))] W fun e W' => e = .returned (.bool true) ∧ Below W.heap.size W W' := by
  go_enter Try.func5, Try.ntmps5
  go_wp2_with (go_at_call 8; refine (begun_any W).mono ?_; rintro e w1 ⟨rfl, hb1⟩)
  obtain ⟨D, hD⟩ : ∃ D, w1.heap.size = D := ⟨_, rfl⟩
  have hWD : W.heap.size ≤ D := by have := hb1.size; omega
  go_loopw [6, 7, 8] (fun v6 v7 i wr => ∃ k : Nat, k ≤ 5 ∧ k ≤ len ∧ i = .int .i64 (k : Int) ∧ ∃ (L : List (Value × List Int)) (ws : List Int), L.length = k ∧ ws.length ≤ 12 * k ∧ Mst D w1 wr v6 v7 L ws ∧ (∀ p, p ∈ L → p.2.length ≤ 12) ∧
    Mg key10 ((L.map Prod.snd).filter (fun l => !l.isEmpty)) ws ∧ Asc key10 ws) (fun _ _ i _ => 5 - (intOf i).toNat)
  case atStart =>
    exact ⟨0, Nat.zero_le _, Nat.zero_le _, rfl, [], [], rfl, by simp, ⟨.refl _ _, by omega, World.ownsRow_nil _ _ _ _, row_none _ _, fun p hp => by simp at hp, fun q hq => by simp [Value.ownBlock] at hq, fun p hp => by simp at hp⟩, fun p hp => by simp at hp, by simp [Mg], asc_nil _⟩
  case round =>
    obtain ⟨k, hk5, hkl, rfl, L, ws, hLk, hwl, hM, hL12, hmg, hasc⟩ := hrel
    by_cases hlt : k < len ∧ k < 5
    · obtain ⟨hlt1, hlt2⟩ := hlt
      have hd5 : decide ((k : Int) < 5) = true := decide_eq_true (by omega)
      obtain ⟨b, off, A, m, c, rfl, hbW, hcell, hm, hrow⟩ := hP k (by omega)
      have hcw : wr.cell? ⟨b, off + k, none⟩ = some (.slice A m c) := by rw [hM.below.cell (p := ⟨b, off + k, none⟩) (by show b < D; omega), hb1.cell (p := ⟨b, off + k, none⟩) hbW]; exact hcell
      go_wp2_with fail
      obtain ⟨M, hMst⟩ : ∃ M : Hid (Mst D w1 wr u6 u7 L ws), M = Lib.hid hM := ⟨_, rfl⟩
      clear hMst hM hcw
      go_loopw [9, 10] (fun v9 i10 w => ∃ j : Nat, j ≤ 12 ∧ j ≤ m ∧ i10 = .int .i64 (j : Int) ∧ ∃ l : List Int, l.length = j ∧ Mst D w1 w u6 u7 L ws ∧ Lst D w u6 u7 v9 L l ∧ Asc key10 l) (fun _ i _ => 12 - (intOf i).toNat)
      case atStart => exact ⟨0, Nat.zero_le _, Nat.zero_le _, rfl, [], rfl, M.out, lst_nil, asc_nil _⟩
      case round =>
        clear M
        obtain ⟨j, hj12, hjm, rfl, l, hll, hM, hLs, hal⟩ := hrel
        have hcw : wr.cell? ⟨b, off + k, none⟩ = some (.slice A m c) := by rw [hM.below.cell (p := ⟨b, off + k, none⟩) (by show b < D; omega), hb1.cell (p := ⟨b, off + k, none⟩) hbW]; exact hcell
        by_cases hlt : j < m ∧ j < 12
        · obtain ⟨hlt3, hlt4⟩ := hlt
          have hd12 : decide ((j : Int) < 12) = true := decide_eq_true (by omega)
          obtain ⟨b', off', rfl, hbW', hcell'⟩ := hrow j (by omega)
          have hcw' : wr.cell? ⟨b', off' + j, none⟩ = some (Value.int .i64 (xs[k][j])) := by rw [hM.below.cell (p := ⟨b', off' + j, none⟩) (by show b' < D; omega), hb1.cell (p := ⟨b', off' + j, none⟩) hbW']; exact hcell'
          generalize xs[k][j] = x0 at hcw'
          go_upto_region 14 with fail
          generalize (wrap64 (wrap64 ((wrap64 (x0.tmod 20 + 20)).tmod 20 * 10) + (k : Int))) = x
          obtain ⟨p9, c9, rfl⟩ := row_len' hLs.r9 hll
          go_wp2_with (at_builtin; refine wpList_append_ints rfl (.tmp 58) (.tmp 60) rfl D (.slice p9 j c9) l (.slice (some ⟨wr.heap.size, 0, none⟩) 1 1) [x] _ (by simp [Act.eval]) (by simp [Act.eval]) (hLs.r9.alloc _) (ints_new wr [x] 1) (by simp; omega) (by simp; have := hM.sz; omega) ?_; intro v3 w3 hr3 hg3 hat3; obtain ⟨hM3, hL3⟩ := app9 hM hLs hr3 hg3 hat3; clear hM hLs hg3 hat3 hcw hcw'; obtain ⟨g, c3, rfl, hc3⟩ := row_form' hr3 (n := j) (by simp; omega); clear hr3)
          have HM3 := Lib.hid (And.intro hM3 hL3)
          clear hM3 hL3
          go_loopw [12] (fun i12 w => ∃ a : Nat, a ≤ j ∧ i12 = .int .i64 (a : Int) ∧ ∃ y : Int, Mst D w1 w u6 u7 L ws ∧ Lst D w u6 u7 (.slice (some ⟨g, 0, none⟩) (j + 1) c3) L (l.take a ++ y :: l.drop a) ∧ ∀ z, z ∈ l.drop a → key10 x < key10 z) (fun i _ => (intOf i).toNat)
          case atStart => exact ⟨j, Nat.le_refl _, rfl, x, HM3.out.1, by rw [List.take_of_length_le (by omega), List.drop_eq_nil_of_le (by omega)]; exact HM3.out.2, by rw [List.drop_eq_nil_of_le (by omega)]; simp⟩
          case round =>
            clear HM3
            obtain ⟨a, haj, rfl, y, hM, hLs, hgt⟩ := hrel
            have hly := ins_len y (l := l) (a := a) (by omega)
            cases a with
            | zero =>
              have hcb : wr.cell? ⟨g, 0, none⟩ = some (Value.int .i64 (y)) := row_cell hLs.r9 (by omega) (by simp)
              have hfb := row_frozen hLs.r9 (by omega) 0
              go_wp2_with fail
              obtain ⟨hM', hL'⟩ := set9 hM hLs 0 x (by omega) (ins_end y x (Nat.zero_le _))
              exact ⟨⟨j + 1, by omega, by omega, by simp, _, by rw [ins_len x (Nat.zero_le _)]; omega, hM', hL', (ins_at (Nat.zero_le _) hgt (fun c hc => by omega)).asc hal⟩, by simp [intOf]; omega⟩
            | succ a =>
              have hal' : a < l.length := by omega
              have hca := row_cell hLs.r9 (by omega) (ins_get y hal')
              have hcb : wr.cell? ⟨g, a + 1, none⟩ = some (Value.int .i64 (y)) := row_cell hLs.r9 (by omega) (by rw [List.getElem?_append_right (by rw [List.length_take]; omega)]; simp [Nat.min_eq_left (by omega : a + 1 ≤ l.length)])
              have hfb := row_frozen hLs.r9 (by omega) (a + 1)
              obtain ⟨z, hz⟩ : ∃ z, l[a] = z := ⟨_, rfl⟩
              rw [hz] at hca
              by_cases hzx : key10 x < key10 z
              · have hzx' := hzx
                unfold key10 at hzx'
                go_wp2_with fail
                have es := ins_set y hal'
                rw [hz] at es
                obtain ⟨hM', hL'⟩ := set9 hM hLs (a + 1) z (by omega) es
                refine ⟨⟨a, by omega, rfl, z, hM', hL', fun q hq => ?_⟩, by simp [intOf]⟩
                rw [List.drop_eq_getElem_cons hal', hz] at hq
                rcases List.mem_cons.1 hq with rfl | hq
                · exact hzx
                · exact hgt q hq
              · have hzx' := hzx
                unfold key10 at hzx'
                go_wp2_with fail
                obtain ⟨hM', hL'⟩ := set9 hM hLs (a + 1) x (by omega) (ins_end y x (by omega))
                refine ⟨⟨j + 1, by omega, by omega, by simp, _, by rw [ins_len x (by omega)]; omega, hM', hL', (ins_at (by omega) hgt (fun q hq hql => ?_)).asc hal⟩, by simp [intOf]; omega⟩
                have : a = q := by omega
                subst this
                rw [hz]; omega
        · have hj : ¬ j < m ∨ (j < m ∧ ¬ j < 12) := by omega
          clear hlt
          obtain ⟨p9, c9, rfl⟩ := row_len' hLs.r9 hll
          rcases hj with hj | ⟨hj, hj'⟩
          all_goals
            go_wp2_with (at_builtin; refine wpList_append_list (W := wr) rfl (.tmp 89) (.tmp 91) rfl D u6 k (L.map Prod.fst) (.slice p9 j c9) (by simp [Act.eval]) (by simp [Act.eval]) (by rw [← hLk]; exact hM.r6.alloc _) rfl (by omega) hM.sz ?_; intro v3 w3 hr3 hg3 hat3; have hM3 := Lib.hid (app6 hM hLs (by rw [hLk]; exact hr3) hg3 hat3))
            clear hcw hP hrow hcell
            have hpf : 0 < j → ∃ g, p9 = some ⟨g, 0, none⟩ := row_ptr hLs.r9 hll
            clear hLs hM
            obtain ⟨A0, hA0⟩ : ∃ A0, (L.map Prod.snd).filter (fun l => !l.isEmpty) = A0 := ⟨_, rfl⟩
            have HA0 := Lib.hid hA0
            rw [hA0] at hmg
            clear hA0
            have HF := Lib.hid (And.intro hmg (And.intro hasc (And.intro hL12 hal)))
            clear hmg hasc hL12 hal
            obtain ⟨LL, hLL⟩ : ∃ LL, L ++ [(Value.slice p9 j c9, l)] = LL := ⟨_, rfl⟩
            have HLL := Lib.hid hLL
            rw [hLL] at hM3
            clear hLL
            go_loopw [7, 13] (fun v7 i13 w => ∃ i : Nat, i ≤ j ∧ i13 = .int .i64 (i : Int) ∧ ∃ ws' : List Int, ws'.length = ws.length + i ∧ Mst D w1 w v3 v7 LL ws' ∧ Mg key10 (A0 ++ nel (l.take i)) ws' ∧ Asc key10 ws') (fun _ i _ => j - (intOf i).toNat)
            case atStart => exact ⟨0, Nat.zero_le _, rfl, ws, rfl, hM3.out, by simpa [nel] using HF.out.1, HF.out.2.1⟩
            case round =>
              clear hM3
              obtain ⟨i, hij, rfl, ws', hwl', hM, hmg, hasc⟩ := hrel
              by_cases hlti : i < j
              · obtain ⟨g9, rfl⟩ := hpf (by omega)
                have hil : i < l.length := by omega
                have hr9 : Row wr D (.slice (some ⟨g9, 0, none⟩) j c9) l := hM.ls (.slice (some ⟨g9, 0, none⟩) j c9, l) (by rw [← HLL.out]; simp)
                have hc9 := row_cell hr9 hll (j := i) (x := l[i]) (by simp [hil])
                have htk : l.take (i + 1) = l.take i ++ [l[i]] := List.take_succ_eq_append_getElem hil
                obtain ⟨x, hx⟩ : ∃ x, l[i] = x := ⟨_, rfl⟩
                rw [hx] at hc9 htk
                obtain ⟨nn, hnn⟩ : ∃ nn, ws'.length = nn := ⟨_, rfl⟩
                obtain ⟨p7, c7, rfl⟩ := row_len' hM.r7 hnn
                have HG := Lib.hid (And.intro hmg (And.intro hasc htk))
                have HX := Lib.hid hx
                clear hmg hasc htk hr9 hx
                go_wp2_with (at_builtin; refine wpList_append_ints rfl (.tmp 101) (.tmp 106) rfl D (.slice p7 nn c7) ws' (.slice (some ⟨wr.heap.size, 0, none⟩) 1 1) [x] _ (by simp [Act.eval]) (by simp [Act.eval]) (hM.r7.alloc _) (ints_new wr [x] 1) (by simp; omega) (by simp; have := hM.sz; omega) ?_; intro v4 w4 hr4 hg4 hat4; have hM4 := Lib.hid (app7 hM hr4 hg4 hat4); clear hM hg4 hat4 hc9; obtain ⟨g7, c7', rfl, hc7'⟩ := row_form' hr4 (n := nn) (by simp; omega); clear hr4)
                go_loopw [14] (fun i14 w => ∃ a : Nat, a ≤ nn ∧ i14 = .int .i64 (a : Int) ∧ ∃ y : Int, Mst D w1 w v3 (.slice (some ⟨g7, 0, none⟩) (nn + 1) c7') LL (ws'.take a ++ y :: ws'.drop a) ∧ ∀ z, z ∈ ws'.drop a → key10 x < key10 z) (fun i _ => (intOf i).toNat)
                case atStart => exact ⟨nn, Nat.le_refl _, rfl, x, by rw [List.take_of_length_le (by omega), List.drop_eq_nil_of_le (by omega)]; exact hM4.out, by rw [List.drop_eq_nil_of_le (by omega)]; simp⟩
                case round =>
                  clear hM4
                  obtain ⟨a, han, rfl, y, hM, hgt⟩ := hrel
                  have hly := ins_len y (l := ws') (a := a) (by omega)
                  have hr9 : Row wr D (.slice (some ⟨g9, 0, none⟩) j c9) l := hM.ls (.slice (some ⟨g9, 0, none⟩) j c9, l) (by rw [← HLL.out]; simp)
                  have hc9 : wr.cell? ⟨g9, i, none⟩ = some (Value.int .i64 (x)) := row_cell hr9 hll (j := i) (by simp [hil, HX.out])
                  clear hr9
                  cases a with
                  | zero =>
                    have hcb : wr.cell? ⟨g7, 0, none⟩ = some (Value.int .i64 (y)) := row_cell hM.r7 (by omega) (by simp)
                    have hfb := row_frozen hM.r7 (by omega) 0
                    go_wp2_with fail
                    go_quiet (fail)
                    go_wp2_with fail
                    have hM' := set7 (hM.drewN nq) 0 x (by omega) (ins_end y x (Nat.zero_le _))
                    have hI := ins_at (key := key10) (x := x) (l := ws') (Nat.zero_le _) hgt (fun c hc => by omega)
                    exact ⟨⟨i + 1, by omega, by simp, _, by rw [hI.len]; omega, hM', by rw [HG.out.2.2]; exact mg_ins ws' A0 (l.take i) x _ HG.out.1 HG.out.2.1 (by rw [← HG.out.2.2]; exact asc_take HF.out.2.2.2 _) hI, hI.asc HG.out.2.1⟩, by simp [intOf]; omega⟩
                  | succ a =>
                    have hal' : a < ws'.length := by omega
                    have hca := row_cell hM.r7 (by omega) (ins_get y hal')
                    have hcb : wr.cell? ⟨g7, a + 1, none⟩ = some (Value.int .i64 (y)) := row_cell hM.r7 (by omega) (by rw [List.getElem?_append_right (by rw [List.length_take]; omega)]; simp [Nat.min_eq_left (by omega : a + 1 ≤ ws'.length)])
                    have hfb := row_frozen hM.r7 (by omega) (a + 1)
                    obtain ⟨z, hz⟩ : ∃ z, ws'[a] = z := ⟨_, rfl⟩
                    rw [hz] at hca
                    by_cases hzx : key10 x < key10 z
                    · have hzx' := hzx
                      unfold key10 at hzx'
                      go_wp2_with fail
                      go_quiet (fail)
                      go_wp2_with fail
                      have es := ins_set y hal'
                      rw [hz] at es
                      have hM' := set7 (hM.drewN nq) (a + 1) z (by omega) es
                      refine ⟨⟨a, by omega, rfl, z, hM', fun q hq => ?_⟩, by simp [intOf]⟩
                      rw [List.drop_eq_getElem_cons hal', hz] at hq
                      rcases List.mem_cons.1 hq with rfl | hq
                      · exact hzx
                      · exact hgt q hq
                    · have hzx' := hzx
                      unfold key10 at hzx'
                      go_wp2_with fail
                      go_quiet (fail)
                      go_wp2_with fail
                      have hM' := set7 (hM.drewN nq) (a + 1) x (by omega) (ins_end y x (by omega))
                      have hI := ins_at (key := key10) (x := x) (l := ws') (a := a + 1) (by omega) hgt (fun q hq hql => by
                        have : a = q := by omega
                        subst this
                        rw [hz]; omega)
                      exact ⟨⟨i + 1, by omega, by simp, _, by rw [hI.len]; omega, hM', by rw [HG.out.2.2]; exact mg_ins ws' A0 (l.take i) x _ HG.out.1 HG.out.2.1 (by rw [← HG.out.2.2]; exact asc_take HF.out.2.2.2 _) hI, hI.asc HG.out.2.1⟩, by simp [intOf]; omega⟩
              · have hie : i = j := by omega
                subst hie
                have htl : l.take i = l := List.take_of_length_le (by omega)
                rw [htl] at hmg
                go_wp2_with fail
                refine ⟨⟨k + 1, by omega, by omega, by simp, LL, ws', by rw [← HLL.out]; simp; omega, by omega, hM, fun q hq => ?_, by rw [← HLL.out, nel_filter, HA0.out]; exact hmg, hasc⟩, by simp [intOf]; omega⟩
                rw [← HLL.out] at hq
                rcases List.mem_append.1 hq with hq | hq
                · exact HF.out.2.2.1 q hq
                · rw [List.mem_singleton.1 hq]; show l.length ≤ 12; omega
    · have hex : ¬ k < len ∨ (k < len ∧ ¬ k < 5) := by omega
      clear hlt
      have hwl' : ws.length ≤ 60 := by omega
      obtain ⟨nn, hnn⟩ : ∃ nn, ws.length = nn := ⟨_, rfl⟩
      have hmk := mst_merge hM (by omega) hL12 hmg
      have h7 := hM.r7.2
      have hi7 := hM.r7.ints
      have hl7 := hM.r7.lt'
      have hbw := below_on hb1 (hM.below.mono (by omega))
      rw [hnn] at h7
      have HNN := Lib.hid hnn
      have hlt1 : ws.length ≤ 1000000 := by omega
      have hlt2 : (ws.take n.toNat).length ≤ 1000000 := by rw [List.length_take]; omega
      clear hP hM hmg hasc hL12 hnn
      rcases h7 with ⟨rfl, h0⟩ | ⟨g7, c7, cur, rfl, _, _, hnc, hcm, _⟩
      · have hws : ws = [] := List.length_eq_zero_iff.1 (by have := HNN.out; omega)
        subst hws
        have hnn : 0 = nn := HNN.out
        subst hnn
        have hnt : ∀ w, Ints w (.slice none 0 0) (([] : List Int).take n.toNat) (fun _ => False) := fun w => .inl ⟨rfl, by simp⟩
        have hm : max 0 (min n (0 : Int)) = 0 := by omega
        rcases hex with hex | ⟨hex, hex'⟩
        all_goals
          go_wp2_with (go_at_call 23; (with_reducible refine hmk.mono ?_); clear hmk; rintro e x1 ⟨gm, lm, rfl, hs1, hb1⟩; have hi1 := hi7.on hl7 hb1; have hW1 := below_on hbw hb1; clear hbw hb1 hi7 hl7)
          try rw [hm]
          have hs1 := hs1.later (Below.refl _ _).drew
          go_region_held3 (fun _ => True) (trivial) (first
            | (go_at_call 13; have hX := sq_list _ [] hlt1 _ hs1; (with_reducible refine hX.mono ?_); clear hX; rintro e y2 ⟨va1, rfl, hr1, hb2⟩; obtain ⟨q1, m1, d1, rfl⟩ := row_slice hr1; have hV2 := below_on hW1.drew hb2; have hs2 := hs1.later hb2; have hj2 := hr1.ints; have hi2 := hi1.1.on hi1.2 ((Below.refl _ _).drew.trans hb2); clear hb2 hr1 hs1 hi1)
            | (go_at_call 12; have hX := eq_yes hj2 hi2.1 hlt1; (with_reducible refine hX.mono ?_); clear hX; rintro e y3 ⟨rfl, hb3⟩; have hV3 := below_on hV2 hb3; have hs3 := hs2.later hb3; clear hb3 hj2 hi2 hs2 hV2)
            | (go_at_call 18; have hX := sq_take _ [] _ hs3 n hn1; (with_reducible refine hX.mono ?_); clear hX; rintro e y4 ⟨ga, la, rfl, ha4, hb4⟩; have hV4 := below_on hV3 hb4; clear hs3 hV3 hb4)
            | (go_at_call 13; have hX := sq_list _ _ hlt2 _ ha4; (with_reducible refine hX.mono ?_); clear hX; rintro e y5 ⟨va5, rfl, hr5, hb5⟩; obtain ⟨q5, m5, d5, rfl⟩ := row_slice hr5; have hV5 := below_on hV4 hb5; have hj5 := hr5.ints; clear hb5 hr5 ha4 hV4)
            | (go_at_call 12; have hX := eq_yes hj5 (hnt _) hlt2; (with_reducible refine hX.mono ?_); clear hX; rintro e y6 ⟨rfl, hb6⟩; have hV6 := below_on hV5 hb6; clear hb6 hj5 hV5))
          go_wp2_with fail
          go_ret
          exact ⟨rfl, hV6⟩
      · obtain ⟨m, hm⟩ : ∃ m : Nat, max 0 (min n (nn : Int)) = (m : Int) := ⟨(max 0 (min n (nn : Int))).toNat, by omega⟩
        have hmn : m ≤ nn := by omega
        have hmc : m ≤ c7 := by omega
        have hmc' : (m : Int) ≤ (c7 : Int) := by omega
        have hm0 : (0 : Int) ≤ (m : Int) := by omega
        have hmt : (ws.take n.toNat).length = m := by have := HNN.out; rw [List.length_take]; omega
        unfold maxLen at hcm
        rcases hex with hex | ⟨hex, hex'⟩
        all_goals
          go_wp2_with (go_at_call 23; (with_reducible refine hmk.mono ?_); clear hmk; rintro e x1 ⟨gm, lm, rfl, hs1, hb1⟩; have hi1 := hi7.on hl7 hb1; have hW1 := below_on hbw hb1; clear hbw hb1 hi7 hl7)
          try rw [hm]
          have hs1 := hs1.later (Below.refl _ _).drew
          go_region_held3 (fun _ => True) (trivial) (first
            | (go_at_call 13; have hX := sq_list _ ws hlt1 _ hs1; (with_reducible refine hX.mono ?_); clear hX; rintro e y2 ⟨va1, rfl, hr1, hb2⟩; obtain ⟨q1, m1, d1, rfl⟩ := row_slice hr1; have hV2 := below_on hW1.drew hb2; have hs2 := hs1.later hb2; have hj2 := hr1.ints; have hi2 := hi1.1.on hi1.2 ((Below.refl _ _).drew.trans hb2); clear hb2 hr1 hs1 hi1)
            | (go_at_call 12; have hX := eq_yes hj2 hi2.1 hlt1; (with_reducible refine hX.mono ?_); clear hX; rintro e y3 ⟨rfl, hb3⟩; have hV3 := below_on hV2 hb3; have hs3 := hs2.later hb3; have hi3 := hi2.1.on hi2.2 hb3; clear hb3 hj2 hi2 hs2 hV2)
            | (go_at_call 18; have hX := sq_take _ ws _ hs3 n hn1; (with_reducible refine hX.mono ?_); clear hX; rintro e y4 ⟨ga, la, rfl, ha4, hb4⟩; have hV4 := below_on hV3 hb4; have hi4 := hi3.1.on hi3.2 hb4; clear hs3 hV3 hb4 hi3)
            | (go_at_call 13; have hX := sq_list _ _ hlt2 _ ha4; (with_reducible refine hX.mono ?_); clear hX; rintro e y5 ⟨va5, rfl, hr5, hb5⟩; obtain ⟨q5, m5, d5, rfl⟩ := row_slice hr5; have hV5 := below_on hV4 hb5; have hj5 := hr5.ints; have hi5 := hi4.1.on hi4.2 hb5; clear hb5 hr5 ha4 hV4 hi4)
            | (go_at_call 12; have hX := eq_yes hj5 (ints_pre hi5.1 hmt) hlt2; (with_reducible refine hX.mono ?_); clear hX; rintro e y6 ⟨rfl, hb6⟩; have hV6 := below_on hV5 hb6; clear hb6 hj5 hV5 hi5))
          go_wp2_with fail
          go_ret
          exact ⟨rfl, hV6⟩
end Go.Proofs.Ytjlnfeableleeaa
