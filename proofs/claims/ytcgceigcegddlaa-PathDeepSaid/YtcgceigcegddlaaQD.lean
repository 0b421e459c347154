/- The reference's Sorted. -/
import Derived.Test.YtcgceigcegddlaaQC
namespace Go.Proofs.Ytcgceigcegddlaa
open Go Go.RowKit Go.Proofs

/-- What Sorted answers of a row of ways, no two alike. -/
def SortedOf (ps : List (List ByteArray)) (W : World) (e : Ending) (w' : World) : Prop := ∃ p m c us qs, e = .returned (.slice p m c) ∧ m = qs.length ∧ PR W.heap.size (.slice p m c) us qs w' ∧ qs.Perm ps ∧ qs.Pairwise (fun a b => cmpP a b < 0) ∧ Below W.heap.size W w'
theorem PR.elem {base n cap g : Nat} {vs : List Value} {ps : List (List ByteArray)} {w : World} (h : PR base (.slice (some ⟨g, 0, none⟩) n cap) vs ps w) {j : Nat} (hj : j < ps.length) : ∃ p c, w.cell? ⟨g, j, none⟩ = some (.slice p ps[j].length c) ∧ Wd w (.slice p ps[j].length c) ps[j] ∧ g < w.heap.size := by
  have hjv : j < vs.length := by rw [h.n]; exact hj
  have hn : n = ps.length := by
    obtain ⟨p, c, e, _⟩ := h.row.isslice
    exact (Value.slice.inj e).2.1
  have hc := HRow.cell (j := j) (hn ▸ h.row) (List.getElem?_eq_getElem hjv)
  have hw := h.each j hjv hj
  obtain ⟨p, c, e, _⟩ := hw.slice
  rw [e] at hc hw
  exact ⟨p, c, hc, hw, (h.row.lt g rfl).2⟩
set_option maxRecDepth 100000 in
set_option maxHeartbeats 8000000 in
theorem sorted_any {B : Nat} {lv : Value} {vs : List Value} {ps : List (List ByteArray)} {W : World} (h : PR B lv vs ps W) (hnd : ps.Nodup) (hl : ps.length ≤ 100000) : Calls Try.prog 39 #[lv] W (SortedOf ps W) := by
  obtain ⟨pl, cl, rfl, hcl, hml⟩ := h.row.isslice
  obtain ⟨n, hn⟩ : ∃ n, ps.length = n := ⟨_, rfl⟩
  obtain ⟨S, hS⟩ : ∃ S, W.heap.size = S := ⟨_, rfl⟩
  unfold maxLen at hml
  rw [hn] at h hcl hl ⊢
  have HP := Lib.hid (And.intro h (And.intro hnd hn))
  have HS := Lib.hid hS
  clear h hnd hn hS
  go_enter Try.func39, Try.ntmps39
  go_wp2_with fail
  go_loopg [3, 4] (n + 1) (fun gh ov kv w => ∃ (i m : Nat) (po : Option Addr) (co : Nat) (us : List Value) (sq : List (List ByteArray)), i ≤ n ∧ n + 1 ≤ i + gh ∧ kv = .int .i64 (i : Int) ∧ ov = .slice po m co ∧ m = sq.length ∧ PR S (.slice po m co) us sq w ∧ sq.Perm (ps.take i) ∧ sq.Pairwise (fun a b => cmpP a b < 0) ∧ Below S W w)
  case atStart => exact ⟨0, 0, none, 0, [], [], Nat.zero_le _, by omega, rfl, rfl, rfl, PR.nil _ _, List.Perm.refl _, List.Pairwise.nil, HS.out ▸ Below.refl _ W⟩
  case round =>
    obtain ⟨i, m, po, co, us, sq, hin, hig, rfl, rfl, hm, hR, hpm, hso, hbel⟩ := hrel
    obtain ⟨w1, rfl⟩ : ∃ w1, w1 = wr := ⟨_, rfl⟩
    have hmi : m ≤ i := by rw [hm, hpm.length_eq, List.length_take]; omega
    obtain ⟨po', co', eo, hco, hmo⟩ := hR.row.isslice
    obtain ⟨-, -, rfl⟩ := Value.slice.inj eo
    rw [← hm] at hco
    unfold maxLen at hmo
    by_cases hlt : i < n
    · have hil : i < ps.length := by rw [HP.out.2.2]; exact hlt
      obtain ⟨gl, cl', e1, _, _⟩ := HP.out.1.row.slice (by omega)
      obtain ⟨rfl, -, rfl⟩ := Value.slice.inj e1
      have hL := fun w (hb : Below S W w) => PR.elem (HP.out.1.on (HS.out ▸ hb)) hil
      obtain ⟨x, hx⟩ : ∃ x, ps[i] = x := ⟨_, rfl⟩
      rw [hx] at hL
      obtain ⟨px, cx, hcx, hwx, hgl⟩ := hL _ hbel
      obtain ⟨lx, hlx⟩ : ∃ k, x.length = k := ⟨_, rfl⟩
      rw [hlx] at hcx hwx
      have htk : ps.take (i + 1) = ps.take i ++ [x] := by rw [List.take_succ_eq_append_getElem hil, hx]
      have hxn : x ∉ sq := fun hmem => by
        rw [hpm.mem_iff] at hmem
        have hd := HP.out.2.1
        rw [← List.take_append_drop (i + 1) ps, htk] at hd
        have hd2 := (List.nodup_append.1 hd).1
        rw [List.nodup_append] at hd2
        exact hd2.2.2 x hmem x (by simp) rfl
      have HX := Lib.hid (And.intro hcx (And.intro hwx (And.intro hgl (And.intro htk (And.intro hxn (And.intro hm (And.intro hpm (And.intro hso hbel))))))))
      have HR := Lib.hid hR
      have hin2 : (i : Int) < (n : Int) := by omega
      have hSw : S ≤ w1.heap.size := HS.out ▸ hbel.size
      have HSW := Lib.hid hSw
      clear hL hcx hwx hgl htk hxn hm hpm hso hbel hR eo e1 hx hlx hSw hil
      go_upto_block 2 with fail
      go_cut [5] from 14 to 30 (fun av wx => ∃ a : Nat, a ≤ m ∧ av = .int .i64 (a : Int) ∧ (∀ j (h : j < sq.length), a ≤ j → 0 < cmpP sq[j] x) ∧ (∀ h : 0 < a ∧ a ≤ sq.length, cmpP (sq[a - 1]'(by omega)) x ≤ 0) ∧ Below w1.heap.size w1 wx)
      case first =>
        go_wp2_with fail
        go_loopg [5] (m + 1) (fun kk av w => ∃ a : Nat, a ≤ m ∧ a + 1 ≤ kk ∧ av = .int .i64 (a : Int) ∧ (∀ j (h : j < sq.length), a ≤ j → 0 < cmpP sq[j] x) ∧ Below w1.heap.size w1 w)
        case atStart => exact ⟨m, Nat.le_refl _, Nat.le_refl _, rfl, fun j h hj => by have := HX.out.2.2.2.2.2.1; omega, Below.refl _ _⟩
        case round =>
          obtain ⟨a, ham, hak, rfl, hhi, hB⟩ := hrel
          have hRw := HR.out.on hB
          have hlx : ∀ w, Below w1.heap.size w1 w → w.cell? ⟨gl, i, none⟩ = some (.slice px lx cx) := fun w hb => bel_cell hb HX.out.1
          have HLX := Lib.hid hlx
          have hxw : ∀ w, Below w1.heap.size w1 w → Wd w (.slice px lx cx) x := fun w hb => HX.out.2.1.later hb
          have HXW := Lib.hid hxw
          clear hlx hxw
          rcases Nat.eq_zero_or_pos a with ha0 | ha0
          · have hd0 : decide ((0 : Int) < (a : Int)) = false := decide_eq_false (by omega)
            have hd1 : decide (0 < a) = false := decide_eq_false (by omega)
            have HB := Lib.hid (And.intro hB (And.intro hhi ha0))
            clear hB hhi hRw ha0
            go_upto_region 6 with fail
            refine Par.wp_region_par 15 [.int .i64 a, .bool false, .bool false, undef, undef, undef, undef, undef, undef, undef, undef, undef, undef, undef, .bool false] (fun w => Below w1.heap.size w1 w) ?A1 ?hm1 ?hB1 ?hA1 (HB.out.1.drew) ?hop1 ?hT1
            case hm1 => kernel_rfl
            case hB1 => kernel_rfl
            case hA1 =>
              simp only [Par.putA, Par.dstAt, Act.put, List.getElem?_toArray, List.getElem?_cons_zero, List.getElem?_cons_succ, Option.bind_some, List.setIfInBounds_toArray, List.set_cons_zero, List.set_cons_succ, List.getD_cons_zero, List.getD_cons_succ]
              rfl
            case hop1 =>
              simp only [List.take_succ_cons, List.take_zero, Par.GiveAll, and_true]
              refine ⟨fun w' hR => ?_, fun w' hR => ?_, fun w' hR => ?_, fun w' hR => ?_, fun w' hR => ?_, fun w' hR => ?_, fun w' hR => ?_, fun w' hR => ?_, fun w' hR => ?_, fun w' hR => ?_, fun w' hR => ?_, fun w' hR => ?_, fun w' hR => ?_, fun w' hR => ?_, fun w' hR => ?_⟩
              · have HR := Lib.hid hR
                clear hR
                simp only [Par.Gives]
                go_simp
                all_goals exact HR.out
              · have HR := Lib.hid hR
                clear hR
                simp only [Par.Gives]
                go_simp
                all_goals exact HR.out
              · have HR := Lib.hid hR
                clear hR
                simp only [Par.Gives]
                go_simp
                all_goals exact HR.out
              · have HR := Lib.hid hR
                clear hR
                simp only [Par.Gives]
                go_simp
                all_goals exact HR.out
              · have HR := Lib.hid hR
                clear hR
                simp only [Par.Gives]
                go_simp
                all_goals exact HR.out
              · have HR := Lib.hid hR
                clear hR
                simp only [Par.Gives]
                go_simp
                all_goals exact HR.out
              · have HR := Lib.hid hR
                clear hR
                simp only [Par.Gives]
                go_simp
                all_goals exact HR.out
              · have HR := Lib.hid hR
                clear hR
                simp only [Par.Gives]
                go_simp
                all_goals exact HR.out
              · have HR := Lib.hid hR
                clear hR
                simp only [Par.Gives]
                go_simp
                all_goals exact HR.out
              · have HR := Lib.hid hR
                clear hR
                simp only [Par.Gives]
                go_simp
                all_goals exact HR.out
              · have HR := Lib.hid hR
                clear hR
                simp only [Par.Gives]
                go_simp
                all_goals exact HR.out
              · have HR := Lib.hid hR
                clear hR
                simp only [Par.Gives]
                go_simp
                all_goals exact HR.out
              · have HR := Lib.hid hR
                clear hR
                simp only [Par.Gives]
                go_simp
                all_goals exact HR.out
              · have HR := Lib.hid hR
                clear hR
                simp only [Par.Gives]
                go_simp
                all_goals exact HR.out
              · have HR := Lib.hid hR
                clear hR
                simp only [Par.Gives]
                go_simp
                all_goals exact HR.out
            case hT1 =>
              intro w' hR
              simp only [List.drop_succ_cons, List.drop_nil]
              have HB2 := Lib.hid hR
              clear hR
              go_wp2_with fail
              go_meet
              exact ⟨a, ham, rfl, HB.out.2.1, fun h => by have := HB.out.2.2; omega, HB2.out⟩
          · obtain ⟨a', rfl⟩ : ∃ a', a = a' + 1 := ⟨a - 1, by omega⟩
            have hal : a' < sq.length := by have := HX.out.2.2.2.2.2.1; omega
            obtain ⟨go, co'', e2, _, _⟩ := hRw.row.slice (by omega)
            obtain ⟨rfl, -, -⟩ := Value.slice.inj e2
            obtain ⟨pq, cq, hcq, hwq, hgo⟩ := PR.elem HR.out hal
            obtain ⟨y, hy⟩ : ∃ y, sq[a'] = y := ⟨_, rfl⟩
            rw [hy] at hcq hwq
            obtain ⟨ly, hly⟩ : ∃ k, y.length = k := ⟨_, rfl⟩
            rw [hly] at hcq hwq
            have HQ : Hid (∀ w, Below w1.heap.size w1 w → w.cell? ⟨go, a', none⟩ = some (.slice pq ly cq) ∧ Wd w (.slice pq ly cq) y) := Lib.hid (fun w hb => ⟨bel_cell hb hcq, hwq.later hb⟩)
            obtain ⟨z, hz⟩ : ∃ z, cmpP y x = z := ⟨_, rfl⟩
            have HC : Hid (∀ w, Below w1.heap.size w1 w → Calls Try.prog 17 #[.slice pq ly cq, .slice px lx cx] w fun e w' => e = .returned (.int .i64 z) ∧ Below w.heap.size w w') := Lib.hid (fun w hb => hz ▸ rcmp_any (HQ.out w hb).2.rd (HXW.out w hb).rd)
            have HY := Lib.hid (And.intro hy hz)
            have HB := Lib.hid (And.intro hB hhi)
            have hao : (a' : Int) < (m : Int) := by omega
            have hwa : IntKind.i64.wrap (a' : Int) = (a' : Int) := by rw [IntKind.wrap_i64]; omega
            have hd1 : decide (0 < a' + 1) = true := decide_eq_true (by omega)
            have hd2 : decide ((0 : Int) < (a' : Int) + 1) = true := decide_eq_true (by omega)
            clear hB hhi hRw e2 hcq hwq hgo hy hly hz
            go_upto_region 6 with fail
            refine Par.wp_region_par 15 [.int .i64 ((a' : Int) + 1), .bool true, .bool true, .slice (some ⟨go, 0, none⟩) m co, .int .i64 ((a' : Int) + 1), .int .i64 a', (Value.pointer (some ⟨go, a', none⟩)), .slice pq ly cq, .slice (some ⟨gl, 0, none⟩) n cl, .int .i64 i, (Value.pointer (some ⟨gl, i, none⟩)), .slice px lx cx, .int .i64 z, .bool (decide (0 < z)), .bool (decide (0 < z))] (fun w => Below w1.heap.size w1 w) ?A2 ?hm2 ?hB2 ?hA2 (HB.out.1.drew) ?hop2 ?hT2
            case hm2 => kernel_rfl
            case hB2 => kernel_rfl
            case hA2 =>
              simp only [Par.putA, Par.dstAt, Act.put, List.getElem?_toArray, List.getElem?_cons_zero, List.getElem?_cons_succ, Option.bind_some, List.setIfInBounds_toArray, List.set_cons_zero, List.set_cons_succ, List.getD_cons_zero, List.getD_cons_succ]
              rfl
            case hop2 =>
              simp only [List.take_succ_cons, List.take_zero, Par.GiveAll, and_true]
              refine ⟨fun w' hR => ?_, fun w' hR => ?_, fun w' hR => ?_, fun w' hR => ?_, fun w' hR => ?_, fun w' hR => ?_, fun w' hR => ?_, fun w' hR => ?_, fun w' hR => ?_, fun w' hR => ?_, fun w' hR => ?_, fun w' hR => ?_, fun w' hR => ?_, fun w' hR => ?_, fun w' hR => ?_⟩
              · have HR := Lib.hid hR
                clear hR
                simp only [Par.Gives]
                go_simp
                all_goals exact HR.out
              · have HR := Lib.hid hR
                clear hR
                simp only [Par.Gives]
                go_simp
                all_goals exact HR.out
              · have HR := Lib.hid hR
                clear hR
                simp only [Par.Gives]
                go_simp
                all_goals exact HR.out
              · have HR := Lib.hid hR
                clear hR
                simp only [Par.Gives]
                go_simp
                all_goals exact HR.out
              · have HR := Lib.hid hR
                clear hR
                simp only [Par.Gives]
                go_simp
                all_goals exact HR.out
              · have HR := Lib.hid hR
                clear hR
                simp only [Par.Gives]
                go_simp
                all_goals exact HR.out
              · have HR := Lib.hid hR
                clear hR
                simp only [Par.Gives]
                go_simp
                all_goals exact HR.out
              · have HR := Lib.hid hR
                have k := (HQ.out w' hR).1
                clear hR
                simp only [Par.Gives]
                go_simp
                all_goals exact HR.out
              · have HR := Lib.hid hR
                clear hR
                simp only [Par.Gives]
                go_simp
                all_goals exact HR.out
              · have HR := Lib.hid hR
                clear hR
                simp only [Par.Gives]
                go_simp
                all_goals exact HR.out
              · have HR := Lib.hid hR
                clear hR
                simp only [Par.Gives]
                go_simp
                all_goals exact HR.out
              · have HR := Lib.hid hR
                have k := HLX.out w' hR
                clear hR
                simp only [Par.Gives]
                go_simp
                all_goals exact HR.out
              · have HR := Lib.hid hR
                clear hR
                simp only [Par.Gives]
                go_simp
                exact (HC.out _ HR.out).mono (fun e w'' ⟨he, hb⟩ => ⟨he, below_on HR.out hb⟩)
              · have HR := Lib.hid hR
                clear hR
                simp only [Par.Gives]
                go_simp
                all_goals exact HR.out
              · have HR := Lib.hid hR
                clear hR
                simp only [Par.Gives]
                go_simp
                all_goals exact HR.out
            case hT2 =>
              intro w' hR
              simp only [List.drop_succ_cons, List.drop_nil]
              have HB2 := Lib.hid hR
              clear hR
              by_cases hz0 : 0 < z
              · have hz1 : decide (0 < z) = true := decide_eq_true hz0
                go_wp2_with fail
                go_roundg (a' + 1)
                case measure => omega
                case rel => exact ⟨a', by omega, by omega, by go_num, fun j h hj => by
                  by_cases e : j = a'
                  · subst e; rw [HY.out.1, HY.out.2]; exact hz0
                  · exact HB.out.2 j h (by omega), HB2.out⟩
              · have hz1 : decide (0 < z) = false := decide_eq_false hz0
                go_wp2_with fail
                go_meet
                exact ⟨a' + 1, ham, rfl, HB.out.2, fun h => by simp only [Nat.add_sub_cancel]; rw [HY.out.1, HY.out.2]; omega, HB2.out⟩
      case rest =>
        obtain ⟨a, ham, rfl, hhi, hge, hB⟩ := hcut
        obtain ⟨w2, rfl⟩ : ∃ w2, w2 = wc := ⟨_, rfl⟩
        have hlt' : ∀ h : 0 < a ∧ a ≤ sq.length, cmpP (sq[a - 1]'(by omega)) x < 0 := fun h => by
          have h1 := hge h
          have h2 : cmpP (sq[a - 1]'(by omega)) x ≠ 0 := fun e => HX.out.2.2.2.2.1 (by rw [← cmpP_zero.1 e]; exact List.getElem_mem _)
          omega
        have hput : (sq.take a ++ x :: sq.drop a).Pairwise (fun a b => cmpP a b < 0) := wsrt_put HX.out.2.2.2.2.2.2.2.1 (by have := HX.out.2.2.2.2.2.1; omega) (fun h => hlt' ⟨h, by have := HX.out.2.2.2.2.2.1; omega⟩) hhi
        have HB := Lib.hid (And.intro hB (And.intro hput hlt'))
        have HXW : Hid (∀ w, Below w1.heap.size w1 w → w.cell? ⟨gl, i, none⟩ = some (.slice px lx cx) ∧ Wd w (.slice px lx cx) x) := Lib.hid (fun w hb => ⟨bel_cell hb HX.out.1, HX.out.2.1.later hb⟩)
        clear hhi hge hB hlt' hput
        go_upto_region 8 with fail
        go_cut [44] from 31 to 44 (fun cv wx => cv = .bool false ∧ Below w1.heap.size w1 wx)
        case first =>
          rcases Nat.eq_zero_or_pos a with ha0 | ha0
          · have hd0 : decide ((0 : Int) < (a : Int)) = false := decide_eq_false (by omega)
            have hd1 : decide (0 < a) = false := decide_eq_false (by omega)
            have HA0 := Lib.hid ha0
            clear ha0
            go_upto_region 8 with fail
            refine Par.wp_region_par 14 [.int .i64 a, .bool false, .bool false, undef, undef, undef, undef, undef, undef, undef, undef, undef, undef, .bool false] (fun w => Below w1.heap.size w1 w) ?A3 ?hm3 ?hB3 ?hA3 (HB.out.1.drew) ?hop3 ?hT3
            case hm3 => kernel_rfl
            case hB3 => kernel_rfl
            case hA3 =>
              simp only [Par.putA, Par.dstAt, Act.put, List.getElem?_toArray, List.getElem?_cons_zero, List.getElem?_cons_succ, Option.bind_some, List.setIfInBounds_toArray, List.set_cons_zero, List.set_cons_succ, List.getD_cons_zero, List.getD_cons_succ]
              rfl
            case hop3 =>
              simp only [List.take_succ_cons, List.take_zero, Par.GiveAll, and_true]
              refine ⟨fun w' hR => ?_, fun w' hR => ?_, fun w' hR => ?_, fun w' hR => ?_, fun w' hR => ?_, fun w' hR => ?_, fun w' hR => ?_, fun w' hR => ?_, fun w' hR => ?_, fun w' hR => ?_, fun w' hR => ?_, fun w' hR => ?_, fun w' hR => ?_, fun w' hR => ?_⟩
              · have HR := Lib.hid hR
                clear hR
                simp only [Par.Gives]
                go_simp
                all_goals exact HR.out
              · have HR := Lib.hid hR
                clear hR
                simp only [Par.Gives]
                go_simp
                all_goals exact HR.out
              · have HR := Lib.hid hR
                clear hR
                simp only [Par.Gives]
                go_simp
                all_goals exact HR.out
              · have HR := Lib.hid hR
                clear hR
                simp only [Par.Gives]
                go_simp
                all_goals exact HR.out
              · have HR := Lib.hid hR
                clear hR
                simp only [Par.Gives]
                go_simp
                all_goals exact HR.out
              · have HR := Lib.hid hR
                clear hR
                simp only [Par.Gives]
                go_simp
                all_goals exact HR.out
              · have HR := Lib.hid hR
                clear hR
                simp only [Par.Gives]
                go_simp
                all_goals exact HR.out
              · have HR := Lib.hid hR
                clear hR
                simp only [Par.Gives]
                go_simp
                all_goals exact HR.out
              · have HR := Lib.hid hR
                clear hR
                simp only [Par.Gives]
                go_simp
                all_goals exact HR.out
              · have HR := Lib.hid hR
                clear hR
                simp only [Par.Gives]
                go_simp
                all_goals exact HR.out
              · have HR := Lib.hid hR
                clear hR
                simp only [Par.Gives]
                go_simp
                all_goals exact HR.out
              · have HR := Lib.hid hR
                clear hR
                simp only [Par.Gives]
                go_simp
                all_goals exact HR.out
              · have HR := Lib.hid hR
                clear hR
                simp only [Par.Gives]
                go_simp
                all_goals exact HR.out
              · have HR := Lib.hid hR
                clear hR
                simp only [Par.Gives]
                go_simp
                all_goals exact HR.out
            case hT3 =>
              intro w' hR
              simp only [List.drop_succ_cons, List.drop_nil]
              have HB2 := Lib.hid hR
              clear hR
              go_wp2_with fail
              go_meet
              exact ⟨rfl, HB2.out⟩
          · obtain ⟨a', rfl⟩ : ∃ a', a = a' + 1 := ⟨a - 1, by omega⟩
            have hal : a' < sq.length := by have := HX.out.2.2.2.2.2.1; omega
            obtain ⟨go, co'', e2, _, _⟩ := HR.out.row.slice (by omega)
            obtain ⟨rfl, -, -⟩ := Value.slice.inj e2
            obtain ⟨pq, cq, hcq, hwq, hgo⟩ := PR.elem HR.out hal
            have hyx : cmpP sq[a'] x < 0 := HB.out.2.2 ⟨by omega, hal⟩
            obtain ⟨y, hy⟩ : ∃ y, sq[a'] = y := ⟨_, rfl⟩
            rw [hy] at hcq hwq hyx
            obtain ⟨ly, hly⟩ : ∃ k, y.length = k := ⟨_, rfl⟩
            rw [hly] at hcq hwq
            have HQ : Hid (∀ w, Below w1.heap.size w1 w → w.cell? ⟨go, a', none⟩ = some (.slice pq ly cq) ∧ Wd w (.slice pq ly cq) y) := Lib.hid (fun w hb => ⟨bel_cell hb hcq, hwq.later hb⟩)
            have hz : decide (cmpP y x = 0) = false := decide_eq_false (by omega)
            have HC : Hid (∀ w, Below w1.heap.size w1 w → Calls Try.prog 35 #[.slice pq ly cq, .slice px lx cx] w fun e w' => e = .returned (.bool false) ∧ Below w.heap.size w w') := Lib.hid (fun w hb => hz ▸ reqP_any (HQ.out w hb).2.rd (HXW.out w hb).2.rd)
            have hao : (a' : Int) < (m : Int) := by omega
            have hwa : IntKind.i64.wrap (a' : Int) = (a' : Int) := by rw [IntKind.wrap_i64]; omega
            have hd1 : decide (0 < a' + 1) = true := decide_eq_true (by omega)
            have hd2 : decide ((0 : Int) < (a' : Int) + 1) = true := decide_eq_true (by omega)
            clear e2 hcq hwq hgo hy hly hz hyx
            go_upto_region 8 with fail
            refine Par.wp_region_par 14 [.int .i64 ((a' : Int) + 1), .bool true, .bool true, .slice (some ⟨go, 0, none⟩) m co, .int .i64 ((a' : Int) + 1), .int .i64 a', (Value.pointer (some ⟨go, a', none⟩)), .slice pq ly cq, .slice (some ⟨gl, 0, none⟩) n cl, .int .i64 i, (Value.pointer (some ⟨gl, i, none⟩)), .slice px lx cx, .bool false, .bool false] (fun w => Below w1.heap.size w1 w) ?A4 ?hm4 ?hB4 ?hA4 (HB.out.1.drew) ?hop4 ?hT4
            case hm4 => kernel_rfl
            case hB4 => kernel_rfl
            case hA4 =>
              simp only [Par.putA, Par.dstAt, Act.put, List.getElem?_toArray, List.getElem?_cons_zero, List.getElem?_cons_succ, Option.bind_some, List.setIfInBounds_toArray, List.set_cons_zero, List.set_cons_succ, List.getD_cons_zero, List.getD_cons_succ]
              rfl
            case hop4 =>
              simp only [List.take_succ_cons, List.take_zero, Par.GiveAll, and_true]
              refine ⟨fun w' hR => ?_, fun w' hR => ?_, fun w' hR => ?_, fun w' hR => ?_, fun w' hR => ?_, fun w' hR => ?_, fun w' hR => ?_, fun w' hR => ?_, fun w' hR => ?_, fun w' hR => ?_, fun w' hR => ?_, fun w' hR => ?_, fun w' hR => ?_, fun w' hR => ?_⟩
              · have HR := Lib.hid hR
                clear hR
                simp only [Par.Gives]
                go_simp
                all_goals exact HR.out
              · have HR := Lib.hid hR
                clear hR
                simp only [Par.Gives]
                go_simp
                all_goals exact HR.out
              · have HR := Lib.hid hR
                clear hR
                simp only [Par.Gives]
                go_simp
                all_goals exact HR.out
              · have HR := Lib.hid hR
                clear hR
                simp only [Par.Gives]
                go_simp
                all_goals exact HR.out
              · have HR := Lib.hid hR
                clear hR
                simp only [Par.Gives]
                go_simp
                all_goals exact HR.out
              · have HR := Lib.hid hR
                clear hR
                simp only [Par.Gives]
                go_simp
                all_goals exact HR.out
              · have HR := Lib.hid hR
                clear hR
                simp only [Par.Gives]
                go_simp
                all_goals exact HR.out
              · have HR := Lib.hid hR
                have k := (HQ.out w' hR).1
                clear hR
                simp only [Par.Gives]
                go_simp
                all_goals exact HR.out
              · have HR := Lib.hid hR
                clear hR
                simp only [Par.Gives]
                go_simp
                all_goals exact HR.out
              · have HR := Lib.hid hR
                clear hR
                simp only [Par.Gives]
                go_simp
                all_goals exact HR.out
              · have HR := Lib.hid hR
                clear hR
                simp only [Par.Gives]
                go_simp
                all_goals exact HR.out
              · have HR := Lib.hid hR
                have k := (HXW.out w' hR).1
                clear hR
                simp only [Par.Gives]
                go_simp
                all_goals exact HR.out
              · have HR := Lib.hid hR
                clear hR
                simp only [Par.Gives]
                go_simp
                exact (HC.out _ HR.out).mono (fun e w'' ⟨he, hb⟩ => ⟨he, below_on HR.out hb⟩)
              · have HR := Lib.hid hR
                clear hR
                simp only [Par.Gives]
                go_simp
                all_goals exact HR.out
            case hT4 =>
              intro w' hR
              simp only [List.drop_succ_cons, List.drop_nil]
              have HB2 := Lib.hid hR
              clear hR
              go_wp2_with fail
              go_meet
              exact ⟨rfl, HB2.out⟩
        case rest =>
          obtain ⟨rfl, hB⟩ := hcut
          obtain ⟨w3, rfl⟩ : ∃ w3, w3 = wc := ⟨_, rfl⟩
          have HB3 := Lib.hid hB
          clear hB
          have hsz3 : S ≤ w3.heap.size := Nat.le_trans HSW.out HB3.out.size
          have hR3 := HR.out.on HB3.out
          obtain ⟨L, hL1, hL2⟩ := hR3.list
          have hLl : L.length = m := by rw [HX.out.2.2.2.2.2.1, ← hL2, List.length_map]
          have hrow3 : HRow w3 S 24 1 (.slice po m co) m us := by have := hR3.row; rw [← HX.out.2.2.2.2.2.1] at this; exact this
          obtain ⟨g, cap', w4, hrun, r4, g4, o4⟩ := app_one (ty := 42) Try.underlying42 info24 (by kernel_rfl) (by decide) (by decide) w3 S hrow3 (by omega) hsz3 #[.slice none 0 0] rfl (by intro u hu; simp only [List.mem_cons, List.not_mem_nil, or_false] at hu; subst hu; rfl)
          have hk4 := Kn.grown hrow3 g4
          have hb4 : Below S w3 w4 := below_row hrow3 g4 (Nat.le_refl _) hsz3
          obtain ⟨cur, hmg, hgc, hcc, _, hcs, _⟩ := r4.form
          have hs24 := size24
          obtain ⟨a1, ha1⟩ : ∃ a1 : Nat, a1 = a + 1 := ⟨_, rfl⟩
          have hwa : IntKind.i64.wrap ((a : Int) + 1) = (a1 : Int) := by rw [ha1, IntKind.wrap_i64]; omega
          have hq0 : (a : Int) ≤ (m : Int) + 1 := by omega
          have hq1 : (a1 : Int) ≤ (m : Int) + 1 := by omega
          have hq3 : (a : Int) < (m : Int) + 1 := by omega
          have hn0 : cap' ≠ a := by omega
          have hul : us.length = m := by have := hrow3.1; omega
          obtain ⟨Mv, hM1, hM2, r5⟩ := row_moved (w := w4.drew) hul ham cur r4 hgc (.slice px lx cx)
          have hms := row_src r4 a
          have hcn : (us.drop a).length = Nat.min (m + 1 - a) (m + 1 - a1) * 1 := by have h := Nat.min_eq_right (show m + 1 - a1 ≤ m + 1 - a by omega); show _ = min (m + 1 - a) (m + 1 - a1) * 1; rw [List.length_drop, hul, h]; omega
          rw [← ha1, List.append_assoc] at r5
          have hfit : a1 + (us.drop a).length ≤ cur.size := by rw [List.length_drop, hul]; omega
          have hone : ∀ u ∈ us.drop a, u.oneCell' = true := fun u hu => hR3.one u (List.mem_of_mem_drop hu)
          have hgS : gl < S := HS.out ▸ (HP.out.1.row.lt gl rfl).2
          have hcl4 : w4.cell? ⟨gl, i, none⟩ = some (.slice px lx cx) := (World.cell?_of_block (w := w3) (hb4.block gl hgS)).trans (HXW.out w3 HB3.out).1
          have HF : Hid (∀ w5, HRow w5 S 24 1 (.slice (some ⟨g, 0, none⟩) (m + 1) cap') (m + 1) Mv → w4.grownBy w5 (some g) → w5.cell? ⟨gl, i, none⟩ = some (.slice px lx cx) ∧ (∃ z, w5.cell? ⟨g, a, none⟩ = some z) ∧ w5.frozen? ⟨g, a, none⟩ = false ∧ PR S (.slice (some ⟨g, 0, none⟩) (m + 1) cap') ((L.take a ++ ⟨.slice px lx cx, x, (HXW.out w3 HB3.out).2⟩ :: L.drop a).map SV.v) (sq.take a ++ x :: sq.drop a) (w5.setCell ⟨g, a, none⟩ (.slice px lx cx)) ∧ Below S W (w5.setCell ⟨g, a, none⟩ (.slice px lx cx))) := Lib.hid (fun w5 h5 hg5 => by
            obtain ⟨r6, g6⟩ := h5.stored a (.slice px lx cx)
            have hk5 : Kn w4 w5 := Kn.one hg5 hgc
            obtain ⟨cur5, _, hgc5, _⟩ := h5.form
            have hk6 : Kn w5 (w5.setCell ⟨g, a, none⟩ (.slice px lx cx)) := Kn.one g6 hgc5
            have hb5 : Below S w4 w5 := grown_below hg5 (fun q hq => by cases hq; exact hmg) (Nat.le_trans hsz3 hb4.size)
            have hb6 : Below S w5 (w5.setCell ⟨g, a, none⟩ (.slice px lx cx)) := grown_below g6 (fun q hq => by cases hq; exact hmg) (Nat.le_trans hsz3 (Nat.le_trans hb4.size hb5.size))
            refine ⟨(World.cell?_of_block (w := w4) (hg5.block gl (Nat.lt_of_lt_of_le hgS (Nat.le_trans hsz3 hb4.size)) (fun e => by cases e; omega))).trans hcl4, ⟨_, h5.cell (List.getElem?_eq_getElem (by omega))⟩, h5.frozenAt a, ?_, (((HX.out.2.2.2.2.2.2.2.2.trans (HB3.out.mono HSW.out)).trans hb4).trans hb5).trans hb6⟩
            have hmap : (L.take a ++ ⟨.slice px lx cx, x, (HXW.out w3 HB3.out).2⟩ :: L.drop a).map SV.l = sq.take a ++ x :: sq.drop a := by rw [List.map_append, List.map_cons, List.map_take, List.map_drop, hL2]
            have hmav : (L.take a ++ ⟨.slice px lx cx, x, (HXW.out w3 HB3.out).2⟩ :: L.drop a).map SV.v = Mv.set a (.slice px lx cx) := by rw [hM2, List.map_append, List.map_cons, List.map_take, List.map_drop, hL1]
            have hlen : (L.take a ++ (⟨.slice px lx cx, x, (HXW.out w3 HB3.out).2⟩ : SV w3) :: L.drop a).length = m + 1 := by rw [List.length_append, List.length_cons, List.length_take, List.length_drop, hLl]; omega
            rw [← hmap]
            exact PR.of_list _ (by rw [hlen, hmav]; exact r6) ((hk4.trans hk5).trans hk6).kp9)
          have HM := Lib.hid (And.intro hM1 (And.intro hM2 (And.intro hcn hul)))
          obtain ⟨D, hD⟩ : ∃ D, us.drop a = D := ⟨_, rfl⟩
          rw [hD] at r5 hms hfit hone
          have hcn' : D.length = Nat.min (m + 1 - a) (m + 1 - a1) * 1 := by rw [← hD]; exact hcn
          have HD := Lib.hid (And.intro hD (And.intro hcn' ha1))
          have HG := Lib.hid (And.intro hmg hgc)
          clear hD hcn hcn' hM1 hM2 hul ha1 hR3 hL1 hL2 hrow3 g4 o4 hk4 hb4 hcl4 hgS
          go_upto_region 10 with (at_builtin; refine wpList_append_run rfl (.tmp 45) (.tmp 46) 42 rfl rfl rfl hrun ?_)
          by_cases hn1 : cap' = a1
          · have hD0 : D = [] := by rw [← HD.out.1]; exact List.drop_eq_nil_of_le (by rw [HM.out.2.2.2]; have := HD.out.2.2; omega)
            rw [hD0, List.nil_append, List.length_nil, Nat.add_zero, List.take_append_drop, Array.toArray_toList] at r5
            subst hn1
            go_region_law? (refine step_copy_sized rfl (.tmp 51) (.tmp 54) 42 42 rfl 24 1 Try.underlying42 hs24 0 (cap' - cap') (m + 1 - a) (cap' - a) g 0 ⟨g, a, none⟩ (by simp [Act.eval, Act.put]) (by simp [Act.eval, Act.put]) cur 24 hgc [] (by have h := Nat.min_zero (m + 1 - a); show _ = min (m + 1 - a) 0 * 1; rw [h]; rfl) (by intro j u hj; simp at hj) (by simp) (by intro u hu; simp at hu) ?_)
            · obtain ⟨w5, hw5⟩ : ∃ w5, w5 = w4.drew.setRow g cur := ⟨_, rfl⟩
              have gs : w4.grownBy (w4.drew.setRow g cur) (some g) := grown_setRow w4 g _
              rw [← hw5] at r5 gs ⊢
              clear hw5
              obtain ⟨hc5, ⟨z0, hz0⟩, f0, hP6, hb6⟩ := HF.out w5 r5 gs
              have HP6 := Lib.hid (And.intro hP6 hb6)
              have gl5 := World.block_lt_of_cell? _ _ hz0
              have gl6 := World.block_lt_of_cell? _ _ hc5
              clear hP6 hb6 r5 gs
              go_wp2_with fail
              have hle : m + 1 = (sq.take a ++ x :: sq.drop a).length := by rw [List.length_append, List.length_cons, List.length_take, List.length_drop, ← HX.out.2.2.2.2.2.1]; omega
              go_roundg (n - i)
              case measure => omega
              case rel => exact ⟨i + 1, m + 1, _, _, _, sq.take a ++ x :: sq.drop a, by omega, by omega, by go_num, rfl, hle, HP6.out.1, by
                rw [HX.out.2.2.2.1]
                exact wperm_put.trans ((List.Perm.cons x HX.out.2.2.2.2.2.2.1).trans (List.perm_append_comm (l₁ := [x]) (l₂ := ps.take i))), HB.out.2.1, HP6.out.2⟩
          · go_region_law? (refine step_copy_sized rfl (.tmp 51) (.tmp 54) 42 42 rfl 24 1 Try.underlying42 hs24 (m + 1 - a1) (cap' - a1) (m + 1 - a) (cap' - a) g a1 ⟨g, a, none⟩ (by simp [Act.eval, Act.put]) (by simp [Act.eval, Act.put]) cur 24 hgc D HD.out.2.1 hms hfit hone ?_)
            · obtain ⟨w5, hw5⟩ : ∃ w5, w5 = w4.drew.setRow g (List.take a1 cur.toList ++ (D ++ List.drop (a1 + D.length) cur.toList)).toArray := ⟨_, rfl⟩
              have gs : w4.grownBy (w4.drew.setRow g (List.take a1 cur.toList ++ (D ++ List.drop (a1 + D.length) cur.toList)).toArray) (some g) := grown_setRow w4 g _
              rw [← hw5] at r5 gs ⊢
              clear hw5
              obtain ⟨hc5, ⟨z0, hz0⟩, f0, hP6, hb6⟩ := HF.out w5 r5 gs
              have HP6 := Lib.hid (And.intro hP6 hb6)
              have gl5 := World.block_lt_of_cell? _ _ hz0
              have gl6 := World.block_lt_of_cell? _ _ hc5
              clear hP6 hb6 r5 gs
              go_wp2_with fail
              have hle : m + 1 = (sq.take a ++ x :: sq.drop a).length := by rw [List.length_append, List.length_cons, List.length_take, List.length_drop, ← HX.out.2.2.2.2.2.1]; omega
              go_roundg (n - i)
              case measure => omega
              case rel => exact ⟨i + 1, m + 1, _, _, _, sq.take a ++ x :: sq.drop a, by omega, by omega, by go_num, rfl, hle, HP6.out.1, by
                rw [HX.out.2.2.2.1]
                exact wperm_put.trans ((List.Perm.cons x HX.out.2.2.2.2.2.2.1).trans (List.perm_append_comm (l₁ := [x]) (l₂ := ps.take i))), HB.out.2.1, HP6.out.2⟩
    · obtain rfl : i = n := by omega
      have HM := Lib.hid hm
      clear hm eo
      go_wp2_with fail
      go_ret
      exact ⟨_, _, _, us, sq, rfl, HM.out, HS.out ▸ hR, by have := hpm; rw [List.take_of_length_le (by rw [HP.out.2.2]; exact Nat.le_refl _)] at this; exact this, hso, HS.out ▸ hbel⟩
end Go.Proofs.Ytcgceigcegddlaa
