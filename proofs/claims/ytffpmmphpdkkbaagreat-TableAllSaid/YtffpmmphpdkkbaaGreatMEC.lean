/- same. -/
import Derived.Test.YtffpmmphpdkkbaaGreatMEA
namespace Go.Proofs.YtffpmmphpdkkbaaGreat
open Go Go.RowKit Go.Proofs Co Co.S
section
variable {W : World} {b next : Nat} {t : T} {A : List R1} {i : DI} {lab : Nat → Nat}
set_option maxRecDepth 100000 in
set_option maxHeartbeats 16000000 in
theorem tsame_any {tb : Nat} {labT : Nat → Nat} (hT : Tb W tb t next A labT) (h : DbM W b t next A i lab) (hf : Few t) (h0 : 0 < t.cols.length) (hAl : A.length ≤ 1000) (hix : ∀ c (hc : c < t.cols.length), ixC t.cols t.cols[c].nm = (c : Int)) (ask : Int) (hask : F64 ask) (col : ByteArray) :
    Calls Tryz.prog 20 #[(Value.pointer (some ⟨tb, 0, none⟩)), (Value.pointer (some ⟨b, 0, none⟩)), .int .i64 ask, .string col] W fun e w' => e = .returned (.bool true) ∧ Below W.heap.size W w' := by
  obtain ⟨⟨go, co, gs, cs, gn, cn, pr, cr, pc, kc, pd, kd⟩, hSR⟩ := h.sr h0
  have hc1000 := hf.1
  have hHT : Hid (∀ w, Below W.heap.size W w → Tb w tb t next A labT) := Lib.hid (fun w hb => hT.later hb)
  have HW : Hid (∀ w c, Below W.heap.size W w → c < t.cols.length → Calls Tryz.prog 49 #[(Value.pointer (some ⟨b, 0, none⟩)), .int .i64 0, .int .i64 (c : Int)] w fun e w' => e = .returned (.int .i64 ((firstsP (colL A c) A.length).length : Int)) ∧ Below w.heap.size w w') := Lib.hid (fun w c hb hc => dwords_any (h.later hb) (by omega) hc1000 h0 hc)
  have HRd : Hid (∀ w, Below W.heap.size W w → RdT w (.slice pc t.cols.length kc) (.slice pd t.deps.length kd) t) := Lib.hid (fun w hb => (hSR w hb).rd)
  have HROW : Hid (∀ k (hk : k < A.length), ∃ gr gv cv, pr = some ⟨gr, 0, none⟩ ∧ ∀ w, Below W.heap.size W w → w.cell? ⟨gr, k * 2, none⟩ = some (.int .i64 A[k].1) ∧ w.cell? ⟨gr, k * 2 + 1, none⟩ = some (.slice (some ⟨gv, 0, none⟩) t.cols.length cv) ∧ HRow w 0 53 3 (.slice (some ⟨gv, 0, none⟩) t.cols.length cv) t.cols.length (cells3 A[k].2) ∧ gr < w.heap.size) := Lib.hid (fun k hk => by
    obtain ⟨gr, gv, cv, e, r1, r2, r3, r4, r5⟩ := (hSR W (Below.refl _ _)).row k hk
    exact ⟨gr, gv, cv, e, fun w hb => ⟨(World.cell?_of_block (w := W) (hb.block gr r1)).trans r2, (World.cell?_of_block (w := W) (hb.block gr r1)).trans r3, r4.later hb, Nat.lt_of_lt_of_le r1 hb.size⟩⟩)
  have hX : ∀ w, Below W.heap.size W w → w.cell? ⟨b, 0, none⟩ = some (.slice (some ⟨gs, 0, none⟩) 1 cs) ∧ w.cell? ⟨b, 1, none⟩ = some (.slice (some ⟨go, 0, none⟩) 1 co) ∧ w.cell? ⟨b, 2, none⟩ = some (.slice (some ⟨gn, 0, none⟩) 1 cn) ∧ w.cell? ⟨gs, 1, none⟩ = some (.slice pc t.cols.length kc) ∧ w.cell? ⟨gn, 0, none⟩ = some (.int .i64 (next : Int)) ∧ (b < w.heap.size ∧ gs < w.heap.size) ∧ w.cell? ⟨gs, 0, none⟩ = some (.string t.nm) ∧ w.cell? ⟨gs, 2, none⟩ = some (.string t.key) ∧ w.cell? ⟨gs, 3, none⟩ = some (.slice pd t.deps.length kd) :=
    fun w hb => ⟨(hSR w hb).b0, (hSR w hb).b1, (hSR w hb).b2, (hSR w hb).s1, (hSR w hb).n0, ⟨(hSR w hb).bl, (hSR w hb).sl⟩, (hSR w hb).s0, (hSR w hb).s2, (hSR w hb).s3⟩
  have o0 := (hSR W (Below.refl _ _)).o0
  have o1 := (hSR W (Below.refl _ _)).b1
  have xl := (hSR W (Below.refl _ _)).bl
  have HT := hHT
  have hform := fun w (hb : Below W.heap.size W w) => tb_form (HT.out w hb) hf
  have heqt := fun w u v u' v' => @eqTable_same t u v u' v' w
  obtain ⟨n, hn⟩ : ∃ n, A.length = n := ⟨_, rfl⟩
  obtain ⟨nc, hnc⟩ : ∃ n, t.cols.length = n := ⟨_, rfl⟩
  obtain ⟨nd, hnd⟩ : ∃ n, t.deps.length = n := ⟨_, rfl⟩
  obtain ⟨nm, hnm⟩ : ∃ n, t.nm = n := ⟨_, rfl⟩
  obtain ⟨key, hkey⟩ : ∃ n, t.key = n := ⟨_, rfl⟩
  obtain ⟨cols, hcols⟩ : ∃ n, t.cols = n := ⟨_, rfl⟩
  have hn1 : (n : Int) ≤ 1000 := by omega
  have hnc1 : (nc : Int) ≤ 1000 := by omega
  simp only [hnc, hnd, hnm, hkey] at hX
  replace o0 : W.cell? ⟨go, 0, none⟩ = some (.slice pr n cr) := by rw [← hn]; exact o0
  replace o1 : W.cell? ⟨b, 1, none⟩ = some (.slice (some ⟨go, 0, none⟩) 1 co) := o1
  have HX := Lib.hid hX
  have HF : Hid (∀ w, Below W.heap.size W w → Calls Tryz.prog 24 #[(Value.pointer (some ⟨tb, 0, none⟩))] w fun e w' => ∃ p1 c1 p2 c2, e = .returned (.agg #[.string nm, .slice p1 nc c1, .string key, .slice p2 nd c2]) ∧ RdT w' (.slice p1 nc c1) (.slice p2 nd c2) t ∧ Below w.heap.size w w') := Lib.hid (fun w hb => by
    refine (hform w hb).mono ?_
    rintro e w' ⟨p1, c1, p2, c2, ps, rfl, hO, hb2⟩
    rw [hnc, hnd] at hO
    exact ⟨p1, c1, p2, c2, by rw [hnm, hnc, hkey, hnd], hO.rd, hb2⟩)
  have HE : Hid (∀ w p1 c1 p2 c2, Below W.heap.size W w → RdT w (.slice p1 nc c1) (.slice p2 nd c2) t → Calls Tryz.prog 26 #[.agg #[.string nm, .slice p1 nc c1, .string key, .slice p2 nd c2], .agg #[.string nm, .slice pc nc kc, .string key, .slice pd nd kd]] w fun e w' => e = .returned (.bool true) ∧ Below w.heap.size w w') := Lib.hid (fun w p1 c1 p2 c2 hb hr => by
    have h2 := HRd.out w hb
    have := eqTable_same hr (by rw [hnc, hnd] at h2; exact h2)
    rw [hnm, hkey] at this
    exact this)
  have HRd : Hid (∀ w, Below W.heap.size W w → Calls Tryz.prog 47 #[.agg #[.string nm, .slice pc nc kc, .string key, .slice pd nd kd], .string col] w fun e w' => e = .returned (.int .i64 (ixC cols col)) ∧ Below w.heap.size w w') := Lib.hid (fun w hb => by
    have := rcolOf_any (x := col) (HRd.out w hb)
    rw [hnm, hkey, hnc, hnd, hcols] at this
    exact this)
  have HRC : Hid (∀ w, Below W.heap.size W w → RdC w (.slice pc nc kc) t.cols) := Lib.hid (fun w hb => by
    have := (hSR w hb).rd.1
    rw [← hnc]; exact this)
  have HN := Lib.hid (And.intro hn (And.intro hnc (And.intro hcols (And.intro hix (And.intro h0 (And.intro hask hc1000))))))
  clear hT h hf h0 hAl hix hSR hc1000 hX hHT hn hnc hnd hnm hkey hcols hform heqt hask
  go_enter Tryz.func20, Tryz.ntmps20
  go_upto_block 0 with fail
  go_cut [9] from 300 to 300 (fun lv wx => ∃ p m c, lv = .slice p m c ∧ (A.map (·.1)).length = m ∧ Ro wx W.heap.size (.slice p m c) (A.map (·.1)) ∧ Below W.heap.size W wx)
  case first =>
    clear o0 o1 xl
    go_wp2_with fail
    go_loopg [9, 11] (n + 1) (fun gh l0 jv w => ∃ (j : Nat) (lv : Value), lv = l0 ∧ jv = .int .i64 (j : Int) ∧ j ≤ n ∧ n + 1 ≤ j + gh ∧ Ro w W.heap.size lv ((A.take j).map (·.1)) ∧ Below W.heap.size W w)
    case atStart => exact ⟨0, _, rfl, rfl, Nat.zero_le _, by omega, HRow.nil, Below.refl _ _⟩
    case round =>
      obtain ⟨j, lv, rfl, rfl, hj, hg, hRo, hB⟩ := hrel
      have hlen : ((A.take j).map (·.1)).length = j := by rw [List.length_map, List.length_take, HN.out.1]; omega
      obtain ⟨pl, cl, hlv, _, _⟩ := HRow.isslice hRo
      rw [hlen] at hlv
      by_cases hlt : j < n
      · have hji : (j : Int) < (n : Int) := by omega
        have hjA : j < A.length := by rw [HN.out.1]; exact hlt
        obtain ⟨gr, gv, cv, rfl, hRWa⟩ := HROW.out j hjA
        have hu := hlv
        subst hu
        obtain ⟨g, cg, w2, hrun, hRo2, hg2, ho2⟩ := app_int 35 Tryz.underlying35 wr W.heap.size hlen hRo (by omega) hB.size A[j].1
        have hB2 : Below W.heap.size W w2 := hB.trans (below_row hRo hg2 (Nat.le_refl _) hB.size)
        have hrow := tb_row_yes (HT.out w2 hB2) (List.getElem_mem hjA) HN.out.2.2.2.2.2.2 HN.out.2.2.2.2.1
        have hlenA := (HT.out w2 hB2).len _ (List.getElem_mem hjA)
        obtain ⟨a, ha⟩ : ∃ a, A[j] = a := ⟨_, rfl⟩
        have hmA : a ∈ A := by rw [← ha]; exact List.getElem_mem hjA
        rw [ha] at hRWa hrun hRo2 hrow hlenA
        rw [HN.out.2.1] at hRWa hrow hlenA
        obtain ⟨z1, _, _, z4⟩ := hRWa wr hB
        obtain ⟨y1, _, _, y4⟩ := hRWa w2 hB2
        have HRW := Lib.hid hRWa
        have H2 := Lib.hid (And.intro hRo2 (And.intro hB2 (And.intro ha (And.intro hlenA hmA))))
        clear hRo hB hRo2 hg2 ho2 hB2 ha hRWa hlenA hmA
        go_upto_region 7 with (at_builtin; refine wpList_append_run rfl (.tmp 35) (.tmp 41) 35 rfl rfl rfl hrun ?_)
        clear z1 z4
        go_upto_region 8 with (go_at_call 23; (with_reducible refine hrow.mono ?_); rintro e w3 ⟨g3, c3, rfl, hg3, hr3, hb3⟩; have H3 := Lib.hid (And.intro hr3 (And.intro (below_on H2.out.2.1 hb3) hb3)); clear hrow hr3 hb3)
        obtain ⟨v1, v2, v3, v4⟩ := HRW.out w3 H3.out.2.1
        have hrr := rrow_same (InV.of_row H3.out.1 H2.out.2.2.2.1) (InV.of_row v3 H2.out.2.2.2.1)
        clear v3 y1 y4
        go_wp2_with (go_at_call 25; (with_reducible refine hrr.mono ?_); rintro e w4 ⟨rfl, hb4⟩; have H4 := Lib.hid (And.intro (below_on H3.out.2.1 hb4) (below_on H3.out.2.2 hb4)); clear hrr hb4)
        clear v1 v2 v4
        go_loopg [14] (nc + 1) (fun gh cv w => ∃ (c : Nat), cv = .int .i64 (c : Int) ∧ c ≤ nc ∧ nc + 1 ≤ c + gh ∧ Below w4.heap.size w4 w)
        case atStart => exact ⟨0, rfl, Nat.zero_le _, by omega, Below.refl _ _⟩
        case round =>
          obtain ⟨c, rfl, hc, hgc, hBc⟩ := hrel
          have hbw := below_on H4.out.1 hBc
          obtain ⟨x0, x1, x2, x3, x4, ⟨xb, xs⟩, _⟩ := HX.out wr hbw
          by_cases hlc : c < nc
          · have hci : (c : Int) < (nc : Int) := by omega
            have hcc : c < t.cols.length := by rw [HN.out.2.1]; exact hlc
            obtain ⟨b2, o2, rfl, _, z⟩ := RdC.col (HRC.out wr hbw) hcc
            obtain ⟨cc, hcq⟩ : ∃ c', t.cols[c] = c' := ⟨_, rfl⟩
            rw [hcq] at z
            have hca : c < a.2.length := by rw [H2.out.2.2.2.1]; exact hlc
            obtain ⟨u, hu⟩ : ∃ u, a.2[c] = u := ⟨_, rfl⟩
            have hget : ∀ w, Below W.heap.size W w → Calls Tryz.prog 27 #[(Value.pointer (some ⟨tb, 0, none⟩)), .int .i64 a.1, .string cc.nm] w fun e w' => e = .returned (.tuple #[(Value.agg #[Value.int .i64 (u.1), Value.int .i64 (u.2.1), Value.string (u.2.2)]), .bool true]) ∧ Below w.heap.size w w' := fun w hb =>
              tb_get_yes (HT.out w hb) H2.out.2.2.2.2 hcc (by have := HN.out.2.2.2.1 c hcc; rw [hcq] at this; exact this) (by rw [List.getElem?_eq_getElem hca, hu])
            have tr0 : ∀ w, Below wr.heap.size wr w → ∀ {a : Addr} {v : Value}, wr.cell? a = some v → w.cell? a = some v := fun w hb {a v} h => (World.cell?_of_block (w := wr) (hb.block _ (World.block_lt_of_cell? _ _ h))).trans h
            have HC : Hid (∀ w, Below wr.heap.size wr w → Below W.heap.size W w ∧ (w.cell? ⟨b, 0, none⟩ = some (.slice (some ⟨gs, 0, none⟩) 1 cs) ∧ w.cell? ⟨gs, 1, none⟩ = some (.slice (some ⟨b2, o2, none⟩) nc kc)) ∧ (b < w.heap.size ∧ gs < w.heap.size ∧ gr < w.heap.size ∧ b2 < w.heap.size) ∧
                (w.cell? ⟨gr, j * 2, none⟩ = some (.int .i64 a.1) ∧ w.cell? ⟨gr, j * 2 + 1, none⟩ = some (.slice (some ⟨gv, 0, none⟩) nc cv)) ∧ w.cell? ⟨b2, o2 + c * 4, none⟩ = some (.string cc.nm) ∧
                (w.cell? ⟨gv, c * 3, none⟩ = some (.int .i64 u.1) ∧ w.cell? ⟨gv, c * 3 + 1, none⟩ = some (.int .i64 u.2.1) ∧ w.cell? ⟨gv, c * 3 + 2, none⟩ = some (.string u.2.2))) := Lib.hid (fun w hb => by
              have hw := below_on hbw hb
              obtain ⟨q1, q2, q3, q4⟩ := HRW.out w hw
              have c0 := tr0 w hb z.1
              obtain ⟨k1, k2, k3⟩ := cells3_at a.2 c hca
              rw [hu] at k1 k2 k3
              exact ⟨hw, ⟨tr0 w hb x0, tr0 w hb x3⟩, ⟨Nat.lt_of_lt_of_le xb hb.size, Nat.lt_of_lt_of_le xs hb.size, q4, World.block_lt_of_cell? _ _ c0⟩, ⟨q1, q2⟩, c0, q3.cell k1, q3.cell k2, q3.cell k3⟩)
            have HG := Lib.hid hget
            have HBC := Lib.hid hBc
            clear hBc z hcq hca hu hget tr0
            go_upto_region 13 with fail
            clear x0 x1 x2 x3 x4 xb xs
            refine Par.wp_region_par4 24 (SJ wr (fun idx => [(Value.pointer (some ⟨tb, 0, none⟩)), .slice (some ⟨gr, 0, none⟩) n cr, (Value.int .i64 ((j : Int))), (Value.pointer (some ⟨gr, j * 2, none⟩)), (Value.pointer (some ⟨gr, j * 2, none⟩)), (Value.int .i64 (a.1)), (Value.pointer (some ⟨b, 0, none⟩)), (Value.pointer (some ⟨b, 0, none⟩)), (Value.pointer (some ⟨b, 0, none⟩)), .slice (some ⟨gs, 0, none⟩) 1 cs, (Value.pointer (some ⟨gs, 0, none⟩)), (Value.pointer (some ⟨gs, 1, none⟩)), .slice (some ⟨b2, o2, none⟩) nc kc, (Value.int .i64 ((c : Int))), (Value.pointer (some ⟨b2, o2 + c * 4, none⟩)), (Value.pointer (some ⟨b2, o2 + c * 4, none⟩)), .string cc.nm, .tuple #[(Value.agg #[Value.int .i64 (u.1), Value.int .i64 (u.2.1), Value.string (u.2.2)]), .bool true], .tuple #[(Value.agg #[Value.int .i64 (u.1), Value.int .i64 (u.2.1), Value.string (u.2.2)]), .bool true], (Value.agg #[Value.int .i64 (u.1), Value.int .i64 (u.2.1), Value.string (u.2.2)]), .bool true, undef, undef, .bool true].getD idx undef) u) ?AA ?hmA ?hBA ?hAA ?hJA ?hopA ?hTA
            case hmA => kernel_rfl
            case hBA => kernel_rfl
            case hAA =>
              intro vs
              simp only [Par.putA, Par.dstAt, Act.put, List.getElem?_toArray, List.getElem?_cons_zero, List.getElem?_cons_succ, Option.bind_some, List.setIfInBounds_toArray, List.set_cons_zero, List.set_cons_succ]
              rfl
            case hJA =>
              intro vs
              exact ⟨below_drew wr, fun _ _ _ h => (by cases h), fun h => (by cases h)⟩
            case hopA =>
              simp only [List.take_succ_cons, List.take_zero, Par.GiveAllK, and_true]
              refine ⟨fun l vs w hJ hl hd hcl => ?_, fun l vs w hJ hl hd hcl => ?_, fun l vs w hJ hl hd hcl => ?_, fun l vs w hJ hl hd hcl => ?_, fun l vs w hJ hl hd hcl => ?_, fun l vs w hJ hl hd hcl => ?_, fun l vs w hJ hl hd hcl => ?_, fun l vs w hJ hl hd hcl => ?_, fun l vs w hJ hl hd hcl => ?_, fun l vs w hJ hl hd hcl => ?_, fun l vs w hJ hl hd hcl => ?_, fun l vs w hJ hl hd hcl => ?_, fun l vs w hJ hl hd hcl => ?_, fun l vs w hJ hl hd hcl => ?_, fun l vs w hJ hl hd hcl => ?_, fun l vs w hJ hl hd hcl => ?_, fun l vs w hJ hl hd hcl => ?_, fun l vs w hJ hl hd hcl => ?_, fun l vs w hJ hl hd hcl => ?_, fun l vs w hJ hl hd hcl => ?_, fun l vs w hJ hl hd hcl => ?_, fun l vs w hJ hl hd hcl => ?_, fun l vs w hJ hl hd hcl => ?_, fun l vs w hJ hl hd hcl => ?_⟩
              · have HJ := Lib.hid hJ
                obtain ⟨q0, ⟨q1, q2⟩, ⟨q3, q4, q5, q6⟩, ⟨q7, q8⟩, q9, _⟩ := HC.out w hJ.bl
                clear hJ hd hcl
                simp only [Par.GivesW]
                go_simp
                all_goals exact HJ.out.up 0 (by decide)
              · have HJ := Lib.hid hJ
                obtain ⟨q0, ⟨q1, q2⟩, ⟨q3, q4, q5, q6⟩, ⟨q7, q8⟩, q9, _⟩ := HC.out w hJ.bl
                clear hJ hd hcl
                simp only [Par.GivesW]
                go_simp
                all_goals exact HJ.out.up 1 (by decide)
              · have HJ := Lib.hid hJ
                obtain ⟨q0, ⟨q1, q2⟩, ⟨q3, q4, q5, q6⟩, ⟨q7, q8⟩, q9, _⟩ := HC.out w hJ.bl
                clear hJ hd hcl
                simp only [Par.GivesW]
                go_simp
                all_goals exact HJ.out.up 2 (by decide)
              · have HJ := Lib.hid hJ
                have d1 : vs 1 = .slice (some ⟨gr, 0, none⟩) n cr := hJ.ev 1 (by decide) (by decide) (hd 1 (by kernel_rfl))
                have d2 : vs 2 = (Value.int .i64 ((j : Int))) := hJ.ev 2 (by decide) (by decide) (hd 2 (by kernel_rfl))
                obtain ⟨q0, ⟨q1, q2⟩, ⟨q3, q4, q5, q6⟩, ⟨q7, q8⟩, q9, _⟩ := HC.out w hJ.bl
                clear hJ hd hcl
                simp only [Par.GivesW, d1, d2]
                go_simp
                all_goals exact HJ.out.up 3 (by decide)
              · have HJ := Lib.hid hJ
                have d3 : vs 3 = (Value.pointer (some ⟨gr, j * 2, none⟩)) := hJ.ev 3 (by decide) (by decide) (hd 3 (by kernel_rfl))
                obtain ⟨q0, ⟨q1, q2⟩, ⟨q3, q4, q5, q6⟩, ⟨q7, q8⟩, q9, _⟩ := HC.out w hJ.bl
                clear hJ hd hcl
                simp only [Par.GivesW, d3]
                go_simp
                all_goals exact HJ.out.up 4 (by decide)
              · have HJ := Lib.hid hJ
                have d4 : vs 4 = (Value.pointer (some ⟨gr, j * 2, none⟩)) := hJ.ev 4 (by decide) (by decide) (hd 4 (by kernel_rfl))
                obtain ⟨q0, ⟨q1, q2⟩, ⟨q3, q4, q5, q6⟩, ⟨q7, q8⟩, q9, _⟩ := HC.out w hJ.bl
                clear hJ hd hcl
                simp only [Par.GivesW, d4]
                go_simp
                all_goals exact HJ.out.up 5 (by decide)
              · have HJ := Lib.hid hJ
                obtain ⟨q0, ⟨q1, q2⟩, ⟨q3, q4, q5, q6⟩, ⟨q7, q8⟩, q9, _⟩ := HC.out w hJ.bl
                clear hJ hd hcl
                simp only [Par.GivesW]
                go_simp
                all_goals exact HJ.out.up 6 (by decide)
              · have HJ := Lib.hid hJ
                have d6 : vs 6 = (Value.pointer (some ⟨b, 0, none⟩)) := hJ.ev 6 (by decide) (by decide) (hd 6 (by kernel_rfl))
                obtain ⟨q0, ⟨q1, q2⟩, ⟨q3, q4, q5, q6⟩, ⟨q7, q8⟩, q9, _⟩ := HC.out w hJ.bl
                clear hJ hd hcl
                simp only [Par.GivesW, d6]
                go_simp
                all_goals exact HJ.out.up 7 (by decide)
              · have HJ := Lib.hid hJ
                have d7 : vs 7 = (Value.pointer (some ⟨b, 0, none⟩)) := hJ.ev 7 (by decide) (by decide) (hd 7 (by kernel_rfl))
                obtain ⟨q0, ⟨q1, q2⟩, ⟨q3, q4, q5, q6⟩, ⟨q7, q8⟩, q9, _⟩ := HC.out w hJ.bl
                clear hJ hd hcl
                simp only [Par.GivesW, d7]
                go_simp
                all_goals exact HJ.out.up 8 (by decide)
              · have HJ := Lib.hid hJ
                have d8 : vs 8 = (Value.pointer (some ⟨b, 0, none⟩)) := hJ.ev 8 (by decide) (by decide) (hd 8 (by kernel_rfl))
                obtain ⟨q0, ⟨q1, q2⟩, ⟨q3, q4, q5, q6⟩, ⟨q7, q8⟩, q9, _⟩ := HC.out w hJ.bl
                clear hJ hd hcl
                simp only [Par.GivesW, d8]
                go_simp
                all_goals exact HJ.out.up 9 (by decide)
              · have HJ := Lib.hid hJ
                have d9 : vs 9 = .slice (some ⟨gs, 0, none⟩) 1 cs := hJ.ev 9 (by decide) (by decide) (hd 9 (by kernel_rfl))
                obtain ⟨q0, ⟨q1, q2⟩, ⟨q3, q4, q5, q6⟩, ⟨q7, q8⟩, q9, _⟩ := HC.out w hJ.bl
                clear hJ hd hcl
                simp only [Par.GivesW, d9]
                go_simp
                all_goals exact HJ.out.up 10 (by decide)
              · have HJ := Lib.hid hJ
                have d10 : vs 10 = (Value.pointer (some ⟨gs, 0, none⟩)) := hJ.ev 10 (by decide) (by decide) (hd 10 (by kernel_rfl))
                obtain ⟨q0, ⟨q1, q2⟩, ⟨q3, q4, q5, q6⟩, ⟨q7, q8⟩, q9, _⟩ := HC.out w hJ.bl
                clear hJ hd hcl
                simp only [Par.GivesW, d10]
                go_simp
                all_goals exact HJ.out.up 11 (by decide)
              · have HJ := Lib.hid hJ
                have d11 : vs 11 = (Value.pointer (some ⟨gs, 1, none⟩)) := hJ.ev 11 (by decide) (by decide) (hd 11 (by kernel_rfl))
                obtain ⟨q0, ⟨q1, q2⟩, ⟨q3, q4, q5, q6⟩, ⟨q7, q8⟩, q9, _⟩ := HC.out w hJ.bl
                clear hJ hd hcl
                simp only [Par.GivesW, d11]
                go_simp
                all_goals exact HJ.out.up 12 (by decide)
              · have HJ := Lib.hid hJ
                obtain ⟨q0, ⟨q1, q2⟩, ⟨q3, q4, q5, q6⟩, ⟨q7, q8⟩, q9, _⟩ := HC.out w hJ.bl
                clear hJ hd hcl
                simp only [Par.GivesW]
                go_simp
                all_goals exact HJ.out.up 13 (by decide)
              · have HJ := Lib.hid hJ
                have d12 : vs 12 = .slice (some ⟨b2, o2, none⟩) nc kc := hJ.ev 12 (by decide) (by decide) (hd 12 (by kernel_rfl))
                have d13 : vs 13 = (Value.int .i64 ((c : Int))) := hJ.ev 13 (by decide) (by decide) (hd 13 (by kernel_rfl))
                obtain ⟨q0, ⟨q1, q2⟩, ⟨q3, q4, q5, q6⟩, ⟨q7, q8⟩, q9, _⟩ := HC.out w hJ.bl
                clear hJ hd hcl
                simp only [Par.GivesW, d12, d13]
                go_simp
                all_goals exact HJ.out.up 14 (by decide)
              · have HJ := Lib.hid hJ
                have d14 : vs 14 = (Value.pointer (some ⟨b2, o2 + c * 4, none⟩)) := hJ.ev 14 (by decide) (by decide) (hd 14 (by kernel_rfl))
                obtain ⟨q0, ⟨q1, q2⟩, ⟨q3, q4, q5, q6⟩, ⟨q7, q8⟩, q9, _⟩ := HC.out w hJ.bl
                clear hJ hd hcl
                simp only [Par.GivesW, d14]
                go_simp
                all_goals exact HJ.out.up 15 (by decide)
              · have HJ := Lib.hid hJ
                have d15 : vs 15 = (Value.pointer (some ⟨b2, o2 + c * 4, none⟩)) := hJ.ev 15 (by decide) (by decide) (hd 15 (by kernel_rfl))
                obtain ⟨q0, ⟨q1, q2⟩, ⟨q3, q4, q5, q6⟩, ⟨q7, q8⟩, q9, _⟩ := HC.out w hJ.bl
                clear hJ hd hcl
                simp only [Par.GivesW, d15]
                go_simp
                all_goals exact HJ.out.up 16 (by decide)
              · have HJ := Lib.hid hJ
                have d0 : vs 0 = (Value.pointer (some ⟨tb, 0, none⟩)) := hJ.ev 0 (by decide) (by decide) (hd 0 (by kernel_rfl))
                have d5 : vs 5 = (Value.int .i64 (a.1)) := hJ.ev 5 (by decide) (by decide) (hd 5 (by kernel_rfl))
                have d16 : vs 16 = .string cc.nm := hJ.ev 16 (by decide) (by decide) (hd 16 (by kernel_rfl))
                obtain ⟨q0, ⟨q1, q2⟩, ⟨q3, q4, q5, q6⟩, ⟨q7, q8⟩, q9, _⟩ := HC.out w hJ.bl
                have hc := HG.out w q0
                clear hJ hd hcl
                simp only [Par.GivesW, d0, d5, d16]
                go_simp
                refine hc.mono ?_
                rintro e y ⟨rfl, hb⟩
                exact ⟨_, rfl, (HJ.out.up 17 (by decide)).later hb⟩
              · have HJ := Lib.hid hJ
                have d17 : vs 17 = .tuple #[(Value.agg #[Value.int .i64 (u.1), Value.int .i64 (u.2.1), Value.string (u.2.2)]), .bool true] := hJ.ev 17 (by decide) (by decide) (hd 17 (by kernel_rfl))
                obtain ⟨q0, ⟨q1, q2⟩, ⟨q3, q4, q5, q6⟩, ⟨q7, q8⟩, q9, _⟩ := HC.out w hJ.bl
                clear hJ hd hcl
                simp only [Par.GivesW, d17]
                go_simp
                all_goals exact HJ.out.up 18 (by decide)
              · have HJ := Lib.hid hJ
                have d18 : vs 18 = .tuple #[(Value.agg #[Value.int .i64 (u.1), Value.int .i64 (u.2.1), Value.string (u.2.2)]), .bool true] := hJ.ev 18 (by decide) (by decide) (hd 18 (by kernel_rfl))
                obtain ⟨q0, ⟨q1, q2⟩, ⟨q3, q4, q5, q6⟩, ⟨q7, q8⟩, q9, _⟩ := HC.out w hJ.bl
                clear hJ hd hcl
                simp only [Par.GivesW, d18]
                go_simp
                all_goals exact HJ.out.up 19 (by decide)
              · have HJ := Lib.hid hJ
                have d18 : vs 18 = .tuple #[(Value.agg #[Value.int .i64 (u.1), Value.int .i64 (u.2.1), Value.string (u.2.2)]), .bool true] := hJ.ev 18 (by decide) (by decide) (hd 18 (by kernel_rfl))
                obtain ⟨q0, ⟨q1, q2⟩, ⟨q3, q4, q5, q6⟩, ⟨q7, q8⟩, q9, _⟩ := HC.out w hJ.bl
                clear hJ hd hcl
                simp only [Par.GivesW, d18]
                go_simp
                all_goals exact HJ.out.up 20 (by decide)
              · have HJ := Lib.hid hJ
                obtain ⟨q0, ⟨q1, q2⟩, ⟨q3, q4, q5, q6⟩, ⟨q7, q8⟩, q9, _⟩ := HC.out w hJ.bl
                have h22 : l 22 = false := by cases h : l 22 with | false => rfl | true => exact absurd (hcl 22 21 (by kernel_rfl) h) (by simp [hl])
                clear hJ hd hcl
                simp only [Par.GivesW]
                go_simp
                exact HJ.out.s21 h22
              · have HJ := Lib.hid hJ
                have d19 : vs 19 = (Value.agg #[Value.int .i64 (u.1), Value.int .i64 (u.2.1), Value.string (u.2.2)]) := hJ.ev 19 (by decide) (by decide) (hd 19 (by kernel_rfl))
                obtain ⟨q0, ⟨q1, q2⟩, ⟨q3, q4, q5, q6⟩, ⟨q7, q8⟩, q9, _⟩ := HC.out w hJ.bl
                have h21 := hd 21 (by kernel_rfl)
                obtain ⟨g5, d21, hg5, hz, _⟩ := hJ.f21 h21
                have hz := hz hl
                have m0 := nd_cell hz 0
                have m1 := nd_cell hz 1
                have m2 := nd_cell hz 2
                have zf := fun i => frozen_of_row w g5 i _ _ hz
                have zl := lt_of_heap hz
                have HZ := Lib.hid hz
                clear hJ hd hcl hz
                simp only [Par.GivesW, d19, d21]
                go_simp
                exact HJ.out.s22 h21 d21 _ (fun q hq => (heap_setCell_other _ ⟨g5, 2, none⟩ q _ hq).trans ((heap_setCell_other _ ⟨g5, 1, none⟩ q _ hq).trans (heap_setCell_other _ ⟨g5, 0, none⟩ q _ hq))) ⟨rfl, rfl, rfl, by simp⟩ (heap_setCell_same _ g5 2 _ _ _ (heap_setCell_same _ g5 1 _ _ _ (heap_setCell_same _ g5 0 _ _ _ HZ.out)))
              · have HJ := Lib.hid hJ
                have d20 : vs 20 = .bool true := hJ.ev 20 (by decide) (by decide) (hd 20 (by kernel_rfl))
                obtain ⟨q0, ⟨q1, q2⟩, ⟨q3, q4, q5, q6⟩, ⟨q7, q8⟩, q9, _⟩ := HC.out w hJ.bl
                clear hJ hd hcl
                simp only [Par.GivesW, d20]
                go_simp
                all_goals exact HJ.out.up 23 (by decide)
            case hTA =>
              intro l vs w5 hl hJ
              simp only [List.drop_succ_cons, List.drop_zero]
              have d23 : vs 23 = .bool true := hJ.ev 23 (by decide) (by decide) (hl 23 (by decide))
              obtain ⟨V, d21, _, _, hV⟩ := hJ.f21 (hl 21 (by decide))
              have hV := hV (hl 22 (by decide))
              have H6 := Lib.hid (And.intro hV hJ.bl)
              clear hV
              simp only [d21, d23]
              generalize vs 0 = s0
              generalize vs 1 = s1
              generalize vs 2 = s2
              generalize vs 3 = s3
              generalize vs 4 = s4
              generalize vs 5 = s5
              generalize vs 6 = s6
              generalize vs 7 = s7
              generalize vs 8 = s8
              generalize vs 9 = s9
              generalize vs 10 = s10
              generalize vs 11 = s11
              generalize vs 12 = s12
              generalize vs 13 = s13
              generalize vs 14 = s14
              generalize vs 15 = s15
              generalize vs 16 = s16
              generalize vs 17 = s17
              generalize vs 18 = s18
              generalize vs 19 = s19
              generalize vs 20 = s20
              generalize vs 22 = s22
              clear hJ hl d21 d23
              unfold wpList
              go_upto_region 14 with fail
              refine Par.wp_region_par 12 [.bool true, .bool false, .bool false, (Value.agg #[Value.int .i64 (u.1), Value.int .i64 (u.2.1), Value.string (u.2.2)]), .slice (some ⟨gr, 0, none⟩) n cr, (Value.int .i64 ((j : Int))), (Value.pointer (some ⟨gr, j * 2, none⟩)), (Value.pointer (some ⟨gr, j * 2 + 1, none⟩)), .slice (some ⟨gv, 0, none⟩) nc cv, (Value.int .i64 ((c : Int))), (Value.pointer (some ⟨gv, c * 3, none⟩)), (Value.agg #[Value.int .i64 (u.1), Value.int .i64 (u.2.1), Value.string (u.2.2)])] (fun w => Below w5.heap.size w5 w) ?A1 ?hm1 ?hB1 ?hA1 ((below_drew w5)) ?hop1 ?hT1
              case hm1 => kernel_rfl
              case hB1 => kernel_rfl
              case hA1 =>
                simp only [Par.putA, Par.dstAt, Act.put, List.getElem?_toArray, List.getElem?_cons_zero, List.getElem?_cons_succ, Option.bind_some, List.setIfInBounds_toArray, List.set_cons_zero, List.set_cons_succ, List.getD_cons_zero, List.getD_cons_succ]
                rfl
              case hop1 =>
                simp only [List.take_succ_cons, List.take_zero, Par.GiveAll, and_true]
                refine ⟨fun w' hR => ?_, fun w' hR => ?_, fun w' hR => ?_, fun w' hR => ?_, fun w' hR => ?_, fun w' hR => ?_, fun w' hR => ?_, fun w' hR => ?_, fun w' hR => ?_, fun w' hR => ?_, fun w' hR => ?_, fun w' hR => ?_⟩
                · have HR := Lib.hid hR
                  clear hR
                  simp only [Par.Gives]
                  go_simp
                  all_goals exact HR.out
                · have HR := Lib.hid hR
                  clear hR
                  simp only [Par.Gives]
                  go_simp
                  all_goals exact HR.out
                · have HR := Lib.hid hR
                  clear hR
                  simp only [Par.Gives]
                  go_simp
                  all_goals exact HR.out
                · have HR := Lib.hid hR
                  have x0 := nd_cell (heap_on hR H6.out.1) 0
                  have x1 := nd_cell (heap_on hR H6.out.1) 1
                  have x2 := nd_cell (heap_on hR H6.out.1) 2
                  clear hR
                  simp only [Par.Gives]
                  go_simp
                  all_goals exact HR.out
                · have HR := Lib.hid hR
                  clear hR
                  simp only [Par.Gives]
                  go_simp
                  all_goals exact HR.out
                · have HR := Lib.hid hR
                  clear hR
                  simp only [Par.Gives]
                  go_simp
                  all_goals exact HR.out
                · have HR := Lib.hid hR
                  clear hR
                  simp only [Par.Gives]
                  go_simp
                  all_goals exact HR.out
                · have HR := Lib.hid hR
                  have zl := (HC.out w' (below_on H6.out.2 hR)).2.2.1.2.2.1
                  clear hR
                  simp only [Par.Gives]
                  go_simp
                  all_goals exact HR.out
                · have HR := Lib.hid hR
                  have x0 := (HC.out w' (below_on H6.out.2 hR)).2.2.2.1.2
                  clear hR
                  simp only [Par.Gives]
                  go_simp
                  all_goals exact HR.out
                · have HR := Lib.hid hR
                  clear hR
                  simp only [Par.Gives]
                  go_simp
                  all_goals exact HR.out
                · have HR := Lib.hid hR
                  clear hR
                  simp only [Par.Gives]
                  go_simp
                  all_goals exact HR.out
                · have HR := Lib.hid hR
                  have x0 := (HC.out w' (below_on H6.out.2 hR)).2.2.2.2.2.1
                  have x1 := (HC.out w' (below_on H6.out.2 hR)).2.2.2.2.2.2.1
                  have x2 := (HC.out w' (below_on H6.out.2 hR)).2.2.2.2.2.2.2
                  clear hR
                  simp only [Par.Gives]
                  go_simp
                  all_goals exact HR.out
              case hT1 =>
                intro w' hR
                simp only [List.drop_succ_cons, List.drop_zero]
                have heq := refEq_any u.1 u.2.1 u.2.2 u.1 u.2.1 u.2.2 w'
                rw [eqV_self] at heq
                have HR := Lib.hid (below_on HBC.out (below_on H6.out.2 hR))
                clear hR
                go_wp2_with (go_at_call 48; (with_reducible refine heq.mono ?_); rintro e w7 ⟨rfl, hb7⟩; have H7 := Lib.hid (below_on HR.out hb7); clear heq hb7)
                go_roundg (nc - c)
                case measure => omega
                case rel => exact ⟨c + 1, rfl, by omega, by omega, H7.out⟩
          · obtain rfl : c = nc := by omega
            have hBw := below_on H4.out.1 hBc
            have hRoc : Ro wr W.heap.size (.slice (some ⟨g, 0, none⟩) (j + 1) cg) (((A.take j).map (·.1)) ++ [a.1]) := HRow.later H2.out.1 (below_on H4.out.2 hBc)
            have HE2 := Lib.hid (And.intro hBw hRoc)
            clear hBw hRoc hBc x1 x2 x4
            go_wp2_with fail
            go_roundg (n - j)
            case measure => omega
            case rel =>
              have et : ((A.take (j + 1)).map (·.1)) = ((A.take j).map (·.1)) ++ [a.1] := by rw [List.take_add_one, List.getElem?_eq_getElem (by rw [HN.out.1]; exact hlt), H2.out.2.2.1, List.map_append]; rfl
              exact ⟨j + 1, _, rfl, rfl, by omega, by omega, by rw [et]; exact HE2.out.2, HE2.out.1⟩
      · obtain rfl : j = n := by omega
        subst hlv
        go_wp2_with fail
        go_meet
        rw [List.take_of_length_le (by rw [HN.out.1]; exact Nat.le_refl _)] at hRo hlen
        exact ⟨_, _, _, rfl, hlen, hRo, hB⟩
  case rest =>
    obtain ⟨pi, ni, ci, rfl, hni, hRo, hB⟩ := hcut
    have HI := Lib.hid (And.intro hni (And.intro hRo hB))
    clear o0 o1 xl hRo hB hni
    obtain ⟨wl, rfl⟩ : ∃ wl, wl = wc := ⟨_, rfl⟩
    go_upto_block 4 with fail
    go_cut [] from 300 to 300 (fun wx => Below wl.heap.size wl wx)
    case first =>
      go_wp2_with fail
      go_loopg [17] (nc + 1) (fun gh cv w => ∃ (c : Nat), cv = .int .i64 (c : Int) ∧ c ≤ nc ∧ nc + 1 ≤ c + gh ∧ Below wl.heap.size wl w)
      case atStart => exact ⟨0, rfl, Nat.zero_le _, by omega, Below.refl _ _⟩
      case round =>
        obtain ⟨c, rfl, hc, hgc, hBc⟩ := hrel
        have hbw := below_on HI.out.2.2 hBc
        obtain ⟨x0, x1, x2, x3, x4, ⟨xb, xs⟩, _⟩ := HX.out wr hbw
        by_cases hlc : c < nc
        · have hci : (c : Int) < (nc : Int) := by omega
          have hcc : c < t.cols.length := by rw [HN.out.2.1]; exact hlc
          obtain ⟨b2, o2, rfl, zb, z⟩ := RdC.col (HRC.out wr hbw) hcc
          have hwd := tb_words_ref (HT.out wr hbw) hcc (HN.out.2.2.2.1 c hcc)
          obtain ⟨cc, hcq⟩ : ∃ c', t.cols[c] = c' := ⟨_, rfl⟩
          rw [hcq] at z hwd
          have z0 := z.1
          obtain ⟨nw, hnw⟩ : ∃ x, (firstsP (colL A c) A.length).length = x := ⟨_, rfl⟩
          have hwr := fun w hb => HW.out w c hb hcc
          rw [hnw] at hwd hwr
          have HBC := Lib.hid (And.intro hBc hbw)
          have HWR := Lib.hid hwr
          clear hBc hbw z hcq hnw hwr
          go_wp2_with (first
            | (go_at_call 31; (with_reducible refine hwd.mono ?_); rintro e w2 ⟨rfl, hb2⟩; have hw2 := HWR.out w2 (below_on HBC.out.2 hb2); have H2 := Lib.hid (below_on HBC.out.1 hb2); clear hwd hb2)
            | (go_at_call 49; (with_reducible refine hw2.mono ?_); rintro e w3 ⟨rfl, hb3⟩; have H3 := Lib.hid (below_on H2.out hb3); clear hw2 hb3))
          go_roundg (nc - c)
          case measure => omega
          case rel => exact ⟨c + 1, rfl, by omega, by omega, H3.out⟩
        · obtain rfl : c = nc := by omega
          go_wp2_with fail
          go_meet
          exact hBc
    case rest =>
      have hB5 := below_on HI.out.2.2 hcut
      have hRo5 : Ro wc W.heap.size (.slice pi ni ci) (A.map (·.1)) := HRow.later HI.out.2.1 hcut
      have hni : (A.map (·.1)).length = ni := HI.out.1
      have hnn : ni = n := by rw [← hni, List.length_map]; exact HN.out.1
      have HS : Hid (∀ w, Below wc.heap.size wc w → Calls Tryz.prog 50 #[.slice pi ni ci] w fun e w' => ∃ p m c, e = .returned (.slice p m c) ∧ (elems (idsP A)).length = m ∧ Rd w' p (elems (idsP A)) ∧ Below w.heap.size w w') := Lib.hid (fun w hb => by
        have hr := HRow.later hRo5 hb
        refine (setof_any (A.map (·.1)) pi ni ci w hni (by omega) (Ro.rd (base := W.heap.size) (cap := ci) (by rw [hni]; exact hr))).mono ?_
        exact fun e w' h => ids_set h)
      have hask := HN.out.2.2.2.2.2.1
      clear hcut hRo5 hni hnn
      by_cases hin : ∃ a ∈ A, a.1 = ask
      · obtain ⟨a, ha, rfl⟩ := hin
        have hrow : Calls Tryz.prog 23 #[(Value.pointer (some ⟨tb, 0, none⟩)), .int .i64 a.1] wc fun e w' => ∃ p m c, e = .returned (.tuple #[.slice p m c, .bool true]) ∧ Below wc.heap.size wc w' := (tb_row_yes (HT.out wc hB5) ha HN.out.2.2.2.2.2.2 HN.out.2.2.2.2.1).mono (by
          rintro e w' ⟨g, c, rfl, _, _, hb⟩
          exact ⟨_, _, _, rfl, hb⟩)
        obtain ⟨q, hq⟩ : ∃ q, decide (0 ≤ ixC cols col) = q := ⟨_, rfl⟩
        have hget : ∀ w, Below W.heap.size W w → ∃ u : T3, Calls Tryz.prog 27 #[(Value.pointer (some ⟨tb, 0, none⟩)), .int .i64 a.1, .string col] w fun e w' => e = .returned (.tuple #[(Value.agg #[Value.int .i64 (u.1), Value.int .i64 (u.2.1), Value.string (u.2.2)]), .bool q]) ∧ Below w.heap.size w w' := fun w hb => by
          rcases ixC_cases t.cols col with hi | ⟨c, hc, hi⟩
          · have e : q = false := by rw [← hq, ← HN.out.2.2.1, hi]; decide
            exact ⟨z3, by rw [e]; exact tb_get_no (HT.out w hb) hask (.inr hi)⟩
          · have e : q = true := by rw [← hq, ← HN.out.2.2.1, hi]; exact decide_eq_true (Int.natCast_nonneg c)
            have hl := (HT.out w hb).len a ha
            have hca : c < a.2.length := by rw [hl]; exact hc
            exact ⟨a.2[c], by rw [e]; exact tb_get_yes (HT.out w hb) ha hc hi (List.getElem?_eq_getElem hca)⟩
        have HHs : Hid (∀ w p m c, (elems (idsP A)).length = m → Rd w p (elems (idsP A)) → Calls Tryz.prog 51 #[.slice p m c, .int .i64 a.1] w fun e w' => e = .returned (.bool true) ∧ w' = w) := Lib.hid (fun w p m c hm hr => sethas_any _ p m c w hm (by have := elems_len (idsP A); omega) hr a.1 true (by
          have hg := (HT.out wc hB5).rng a ha
          obtain ⟨_, _, h2⟩ := HT.out wc hB5
          have hlim := h2.lim
          simp only [true_iff]
          exact mem_elems.2 ⟨by omega, idsP_iff.2 ⟨a, ha, rfl⟩⟩))
        have H0 := Lib.hid hB5
        clear hB5
        go_upto_region 22 with (go_at_call 23; (with_reducible refine hrow.mono ?_); rintro e w2 ⟨pv, mv, cv, rfl, hb2⟩; have hget := hget w2 (below_on H0.out hb2); have H2 := Lib.hid hb2; clear hrow hb2)
        obtain ⟨ug, hget⟩ := hget
        go_upto_region 23 with (go_at_call 27; (with_reducible refine hget.mono ?_); rintro e w3 ⟨rfl, hb3⟩; have H3 := Lib.hid (below_on H2.out hb3); clear hget hb3)
        have hbV := below_alloc w3 (.cells #[.int .i64 ug.1, .int .i64 ug.2.1, .string ug.2.2] 53)
        obtain ⟨w4, hw4⟩ : ∃ w4, w3.alloc (.cells #[.int .i64 ug.1, .int .i64 ug.2.1, .string ug.2.2] 53) = w4 := ⟨_, rfl⟩
        rw [hw4] at hbV ⊢
        have hset := HS.out w4 (below_on H3.out hbV)
        have H4 := Lib.hid (below_on H3.out hbV)
        clear hw4 hbV
        go_upto_region 24 with (first
          | (go_at_call 50; (with_reducible refine hset.mono ?_); rintro e w5 ⟨ps, ms, cs', rfl, hm5, hr5, hb5⟩; have hhas := HHs.out w5 ps ms cs' hm5 hr5; have H5 := Lib.hid (below_on H4.out hb5); clear hset hm5 hr5 hb5)
          | (go_at_call 51; (with_reducible refine hhas.mono ?_); rintro e w6 ⟨rfl, hw⟩; subst w6; clear hhas))
        have hB5 : Below W.heap.size W w5 := below_on H0.out H5.out
        have HS : Hid (∀ w, Below w5.heap.size w5 w → Calls Tryz.prog 50 #[.slice pi ni ci] w fun e w' => ∃ p m c, e = .returned (.slice p m c) ∧ (elems (idsP A)).length = m ∧ Rd w' p (elems (idsP A)) ∧ Below w.heap.size w w') := Lib.hid (fun w hb => HS.out w (below_on H5.out hb))
        refine Par.wp_region_par4 48 (QJ w5 (fun idx => [.bool true, .bool true, .bool true, .bool true, .bool q, .bool true, .bool true, (Value.pointer (some ⟨b, 0, none⟩)), (Value.pointer (some ⟨b, 0, none⟩)), (Value.pointer (some ⟨b, 0, none⟩)), .slice (some ⟨gs, 0, none⟩) 1 cs, (Value.pointer (some ⟨gs, 0, none⟩)), .agg #[.string nm, .slice pc nc kc, .string key, .slice pd nd kd], .string col, (Value.int .i64 (ixC cols col)), .bool q, .bool q, .bool true, .bool true, .bool true, (Value.pointer (some ⟨tb, 0, none⟩)), (Value.int .i64 ((next : Int))), (Value.pointer (some ⟨b, 0, none⟩)), (Value.pointer (some ⟨b, 0, none⟩)), (Value.pointer (some ⟨b, 2, none⟩)), .slice (some ⟨gn, 0, none⟩) 1 cn, (Value.pointer (some ⟨gn, 0, none⟩)), (Value.int .i64 ((next : Int))), .bool true, .bool true, .bool true, (Value.pointer (some ⟨tb, 0, none⟩)), undef, .slice pi ni ci, undef, .bool true, .bool true, .bool true, (Value.pointer (some ⟨tb, 0, none⟩)), undef, (Value.pointer (some ⟨b, 0, none⟩)), (Value.pointer (some ⟨b, 0, none⟩)), (Value.pointer (some ⟨b, 0, none⟩)), .slice (some ⟨gs, 0, none⟩) 1 cs, (Value.pointer (some ⟨gs, 0, none⟩)), .agg #[.string nm, .slice pc nc kc, .string key, .slice pd nd kd], .bool true, .bool true].getD idx undef) (idsP A) t nm key nc nd) ?AAt ?hmAt ?hBAt ?hAAt ?hJAt ?hopAt ?hTAt
        case hmAt => kernel_rfl
        case hBAt => kernel_rfl
        case hAAt =>
          intro vs
          simp only [Par.putA, Par.dstAt, Act.put, List.getElem?_toArray, List.getElem?_cons_zero, List.getElem?_cons_succ, Option.bind_some, List.setIfInBounds_toArray, List.set_cons_zero, List.set_cons_succ]
          rfl
        case hJAt =>
          intro vs
          exact ⟨below_drew w5, fun _ _ h => (by cases h), fun h => (by cases h), fun h => (by cases h), fun h => (by cases h)⟩
        case hopAt =>
          simp only [List.take_succ_cons, List.take_zero, Par.GiveAllK, and_true]
          refine ⟨fun l vs w hJ hl hd hcl => ?_, fun l vs w hJ hl hd hcl => ?_, fun l vs w hJ hl hd hcl => ?_, fun l vs w hJ hl hd hcl => ?_, fun l vs w hJ hl hd hcl => ?_, fun l vs w hJ hl hd hcl => ?_, fun l vs w hJ hl hd hcl => ?_, fun l vs w hJ hl hd hcl => ?_, fun l vs w hJ hl hd hcl => ?_, fun l vs w hJ hl hd hcl => ?_, fun l vs w hJ hl hd hcl => ?_, fun l vs w hJ hl hd hcl => ?_, fun l vs w hJ hl hd hcl => ?_, fun l vs w hJ hl hd hcl => ?_, fun l vs w hJ hl hd hcl => ?_, fun l vs w hJ hl hd hcl => ?_, fun l vs w hJ hl hd hcl => ?_, fun l vs w hJ hl hd hcl => ?_, fun l vs w hJ hl hd hcl => ?_, fun l vs w hJ hl hd hcl => ?_, fun l vs w hJ hl hd hcl => ?_, fun l vs w hJ hl hd hcl => ?_, fun l vs w hJ hl hd hcl => ?_, fun l vs w hJ hl hd hcl => ?_, fun l vs w hJ hl hd hcl => ?_, fun l vs w hJ hl hd hcl => ?_, fun l vs w hJ hl hd hcl => ?_, fun l vs w hJ hl hd hcl => ?_, fun l vs w hJ hl hd hcl => ?_, fun l vs w hJ hl hd hcl => ?_, fun l vs w hJ hl hd hcl => ?_, fun l vs w hJ hl hd hcl => ?_, fun l vs w hJ hl hd hcl => ?_, fun l vs w hJ hl hd hcl => ?_, fun l vs w hJ hl hd hcl => ?_, fun l vs w hJ hl hd hcl => ?_, fun l vs w hJ hl hd hcl => ?_, fun l vs w hJ hl hd hcl => ?_, fun l vs w hJ hl hd hcl => ?_, fun l vs w hJ hl hd hcl => ?_, fun l vs w hJ hl hd hcl => ?_, fun l vs w hJ hl hd hcl => ?_, fun l vs w hJ hl hd hcl => ?_, fun l vs w hJ hl hd hcl => ?_, fun l vs w hJ hl hd hcl => ?_, fun l vs w hJ hl hd hcl => ?_, fun l vs w hJ hl hd hcl => ?_, fun l vs w hJ hl hd hcl => ?_⟩
          · have HJ := Lib.hid hJ
            obtain ⟨y0, y1, y2, y3, y4, ⟨yb, ys⟩, y6, y7, y8⟩ := HX.out w (below_on hB5 hJ.bl)
            clear hJ hd hcl
            simp only [Par.GivesW]
            go_simp
            all_goals exact HJ.out.up 0 (by decide)
          · have HJ := Lib.hid hJ
            obtain ⟨y0, y1, y2, y3, y4, ⟨yb, ys⟩, y6, y7, y8⟩ := HX.out w (below_on hB5 hJ.bl)
            clear hJ hd hcl
            simp only [Par.GivesW]
            go_simp
            all_goals exact HJ.out.up 1 (by decide)
          · have HJ := Lib.hid hJ
            have d0 : vs 0 = .bool true := hJ.ev 0 (by decide) (hd 0 (by kernel_rfl))
            have d1 : vs 1 = .bool true := hJ.ev 1 (by decide) (hd 1 (by kernel_rfl))
            obtain ⟨y0, y1, y2, y3, y4, ⟨yb, ys⟩, y6, y7, y8⟩ := HX.out w (below_on hB5 hJ.bl)
            clear hJ hd hcl
            simp only [Par.GivesW, d0, d1]
            go_simp
            all_goals exact HJ.out.up 2 (by decide)
          · have HJ := Lib.hid hJ
            have d2 : vs 2 = .bool true := hJ.ev 2 (by decide) (hd 2 (by kernel_rfl))
            obtain ⟨y0, y1, y2, y3, y4, ⟨yb, ys⟩, y6, y7, y8⟩ := HX.out w (below_on hB5 hJ.bl)
            clear hJ hd hcl
            simp only [Par.GivesW, d2]
            go_simp
            all_goals exact HJ.out.up 3 (by decide)
          · have HJ := Lib.hid hJ
            have d3 : vs 3 = .bool true := hJ.ev 3 (by decide) (hd 3 (by kernel_rfl))
            obtain ⟨y0, y1, y2, y3, y4, ⟨yb, ys⟩, y6, y7, y8⟩ := HX.out w (below_on hB5 hJ.bl)
            clear hJ hd hcl
            simp only [Par.GivesW, d3]
            go_simp
            all_goals exact HJ.out.up 4 (by decide)
          · have HJ := Lib.hid hJ
            have d3 : vs 3 = .bool true := hJ.ev 3 (by decide) (hd 3 (by kernel_rfl))
            obtain ⟨y0, y1, y2, y3, y4, ⟨yb, ys⟩, y6, y7, y8⟩ := HX.out w (below_on hB5 hJ.bl)
            clear hJ hd hcl
            simp only [Par.GivesW, d3]
            go_simp
            all_goals exact HJ.out.up 5 (by decide)
          · have HJ := Lib.hid hJ
            have d3 : vs 3 = .bool true := hJ.ev 3 (by decide) (hd 3 (by kernel_rfl))
            have d5 : vs 5 = .bool true := hJ.ev 5 (by decide) (hd 5 (by kernel_rfl))
            obtain ⟨y0, y1, y2, y3, y4, ⟨yb, ys⟩, y6, y7, y8⟩ := HX.out w (below_on hB5 hJ.bl)
            clear hJ hd hcl
            simp only [Par.GivesW, d3, d5]
            go_simp
            all_goals exact HJ.out.up 6 (by decide)
          · have HJ := Lib.hid hJ
            have d6 : vs 6 = .bool true := hJ.ev 6 (by decide) (hd 6 (by kernel_rfl))
            obtain ⟨y0, y1, y2, y3, y4, ⟨yb, ys⟩, y6, y7, y8⟩ := HX.out w (below_on hB5 hJ.bl)
            clear hJ hd hcl
            simp only [Par.GivesW, d6]
            go_simp
            all_goals exact HJ.out.up 7 (by decide)
          · have HJ := Lib.hid hJ
            have d6 : vs 6 = .bool true := hJ.ev 6 (by decide) (hd 6 (by kernel_rfl))
            have d7 : vs 7 = (Value.pointer (some ⟨b, 0, none⟩)) := hJ.ev 7 (by decide) (hd 7 (by kernel_rfl))
            obtain ⟨y0, y1, y2, y3, y4, ⟨yb, ys⟩, y6, y7, y8⟩ := HX.out w (below_on hB5 hJ.bl)
            clear hJ hd hcl
            simp only [Par.GivesW, d6, d7]
            go_simp
            all_goals exact HJ.out.up 8 (by decide)
          · have HJ := Lib.hid hJ
            have d6 : vs 6 = .bool true := hJ.ev 6 (by decide) (hd 6 (by kernel_rfl))
            have d8 : vs 8 = (Value.pointer (some ⟨b, 0, none⟩)) := hJ.ev 8 (by decide) (hd 8 (by kernel_rfl))
            obtain ⟨y0, y1, y2, y3, y4, ⟨yb, ys⟩, y6, y7, y8⟩ := HX.out w (below_on hB5 hJ.bl)
            clear hJ hd hcl
            simp only [Par.GivesW, d6, d8]
            go_simp
            all_goals exact HJ.out.up 9 (by decide)
          · have HJ := Lib.hid hJ
            have d6 : vs 6 = .bool true := hJ.ev 6 (by decide) (hd 6 (by kernel_rfl))
            have d9 : vs 9 = (Value.pointer (some ⟨b, 0, none⟩)) := hJ.ev 9 (by decide) (hd 9 (by kernel_rfl))
            obtain ⟨y0, y1, y2, y3, y4, ⟨yb, ys⟩, y6, y7, y8⟩ := HX.out w (below_on hB5 hJ.bl)
            clear hJ hd hcl
            simp only [Par.GivesW, d6, d9]
            go_simp
            all_goals exact HJ.out.up 10 (by decide)
          · have HJ := Lib.hid hJ
            have d6 : vs 6 = .bool true := hJ.ev 6 (by decide) (hd 6 (by kernel_rfl))
            have d10 : vs 10 = .slice (some ⟨gs, 0, none⟩) 1 cs := hJ.ev 10 (by decide) (hd 10 (by kernel_rfl))
            obtain ⟨y0, y1, y2, y3, y4, ⟨yb, ys⟩, y6, y7, y8⟩ := HX.out w (below_on hB5 hJ.bl)
            clear hJ hd hcl
            simp only [Par.GivesW, d6, d10]
            go_simp
            all_goals exact HJ.out.up 11 (by decide)
          · have HJ := Lib.hid hJ
            have d6 : vs 6 = .bool true := hJ.ev 6 (by decide) (hd 6 (by kernel_rfl))
            have d11 : vs 11 = (Value.pointer (some ⟨gs, 0, none⟩)) := hJ.ev 11 (by decide) (hd 11 (by kernel_rfl))
            obtain ⟨y0, y1, y2, y3, y4, ⟨yb, ys⟩, y6, y7, y8⟩ := HX.out w (below_on hB5 hJ.bl)
            clear hJ hd hcl
            simp only [Par.GivesW, d6, d11]
            go_simp
            all_goals exact HJ.out.up 12 (by decide)
          · have HJ := Lib.hid hJ
            have d6 : vs 6 = .bool true := hJ.ev 6 (by decide) (hd 6 (by kernel_rfl))
            obtain ⟨y0, y1, y2, y3, y4, ⟨yb, ys⟩, y6, y7, y8⟩ := HX.out w (below_on hB5 hJ.bl)
            clear hJ hd hcl
            simp only [Par.GivesW, d6]
            go_simp
            all_goals exact HJ.out.up 13 (by decide)
          · have HJ := Lib.hid hJ
            have d6 : vs 6 = .bool true := hJ.ev 6 (by decide) (hd 6 (by kernel_rfl))
            have d12 : vs 12 = .agg #[.string nm, .slice pc nc kc, .string key, .slice pd nd kd] := hJ.ev 12 (by decide) (hd 12 (by kernel_rfl))
            have d13 : vs 13 = .string col := hJ.ev 13 (by decide) (hd 13 (by kernel_rfl))
            obtain ⟨y0, y1, y2, y3, y4, ⟨yb, ys⟩, y6, y7, y8⟩ := HX.out w (below_on hB5 hJ.bl)
            have hbw := below_on hB5 hJ.bl
            have hc := HRd.out w hbw
            clear hJ hd hcl
            simp only [Par.GivesW, d6, d12, d13]
            go_simp
            refine hc.mono ?_
            rintro e y ⟨rfl, hb⟩
            exact ⟨_, rfl, (HJ.out.up 14 (by decide)).later hb⟩
          · have HJ := Lib.hid hJ
            have d6 : vs 6 = .bool true := hJ.ev 6 (by decide) (hd 6 (by kernel_rfl))
            have d14 : vs 14 = (Value.int .i64 (ixC cols col)) := hJ.ev 14 (by decide) (hd 14 (by kernel_rfl))
            obtain ⟨y0, y1, y2, y3, y4, ⟨yb, ys⟩, y6, y7, y8⟩ := HX.out w (below_on hB5 hJ.bl)
            clear hJ hd hcl
            simp only [Par.GivesW, d6, d14]
            go_simp
            all_goals exact HJ.out.up 15 (by decide)
          · have HJ := Lib.hid hJ
            have d3 : vs 3 = .bool true := hJ.ev 3 (by decide) (hd 3 (by kernel_rfl))
            have d6 : vs 6 = .bool true := hJ.ev 6 (by decide) (hd 6 (by kernel_rfl))
            have d15 : vs 15 = .bool q := hJ.ev 15 (by decide) (hd 15 (by kernel_rfl))
            obtain ⟨y0, y1, y2, y3, y4, ⟨yb, ys⟩, y6, y7, y8⟩ := HX.out w (below_on hB5 hJ.bl)
            clear hJ hd hcl
            simp only [Par.GivesW, d3, d6, d15]
            go_simp
            all_goals exact HJ.out.up 16 (by decide)
          · have HJ := Lib.hid hJ
            have d3 : vs 3 = .bool true := hJ.ev 3 (by decide) (hd 3 (by kernel_rfl))
            have d4 : vs 4 = .bool q := hJ.ev 4 (by decide) (hd 4 (by kernel_rfl))
            have d16 : vs 16 = .bool q := hJ.ev 16 (by decide) (hd 16 (by kernel_rfl))
            obtain ⟨y0, y1, y2, y3, y4, ⟨yb, ys⟩, y6, y7, y8⟩ := HX.out w (below_on hB5 hJ.bl)
            clear hJ hd hcl
            simp only [Par.GivesW, d3, d4, d16]
            go_simp
            all_goals exact HJ.out.up 17 (by decide)
          · have HJ := Lib.hid hJ
            have d3 : vs 3 = .bool true := hJ.ev 3 (by decide) (hd 3 (by kernel_rfl))
            have d17 : vs 17 = .bool true := hJ.ev 17 (by decide) (hd 17 (by kernel_rfl))
            obtain ⟨y0, y1, y2, y3, y4, ⟨yb, ys⟩, y6, y7, y8⟩ := HX.out w (below_on hB5 hJ.bl)
            clear hJ hd hcl
            simp only [Par.GivesW, d3, d17]
            go_simp
            all_goals exact HJ.out.up 18 (by decide)
          · have HJ := Lib.hid hJ
            have d18 : vs 18 = .bool true := hJ.ev 18 (by decide) (hd 18 (by kernel_rfl))
            obtain ⟨y0, y1, y2, y3, y4, ⟨yb, ys⟩, y6, y7, y8⟩ := HX.out w (below_on hB5 hJ.bl)
            clear hJ hd hcl
            simp only [Par.GivesW, d18]
            go_simp
            all_goals exact HJ.out.up 19 (by decide)
          · have HJ := Lib.hid hJ
            have d19 : vs 19 = .bool true := hJ.ev 19 (by decide) (hd 19 (by kernel_rfl))
            obtain ⟨y0, y1, y2, y3, y4, ⟨yb, ys⟩, y6, y7, y8⟩ := HX.out w (below_on hB5 hJ.bl)
            clear hJ hd hcl
            simp only [Par.GivesW, d19]
            go_simp
            all_goals exact HJ.out.up 20 (by decide)
          · have HJ := Lib.hid hJ
            have d19 : vs 19 = .bool true := hJ.ev 19 (by decide) (hd 19 (by kernel_rfl))
            have d20 : vs 20 = (Value.pointer (some ⟨tb, 0, none⟩)) := hJ.ev 20 (by decide) (hd 20 (by kernel_rfl))
            obtain ⟨y0, y1, y2, y3, y4, ⟨yb, ys⟩, y6, y7, y8⟩ := HX.out w (below_on hB5 hJ.bl)
            have hbw := below_on hB5 hJ.bl
            have hc := tb_next (HT.out w hbw)
            clear hJ hd hcl
            simp only [Par.GivesW, d19, d20]
            go_simp
            refine hc.mono ?_
            rintro e y ⟨rfl, rfl⟩
            exact ⟨_, rfl, HJ.out.up 21 (by decide)⟩
          · have HJ := Lib.hid hJ
            have d19 : vs 19 = .bool true := hJ.ev 19 (by decide) (hd 19 (by kernel_rfl))
            obtain ⟨y0, y1, y2, y3, y4, ⟨yb, ys⟩, y6, y7, y8⟩ := HX.out w (below_on hB5 hJ.bl)
            clear hJ hd hcl
            simp only [Par.GivesW, d19]
            go_simp
            all_goals exact HJ.out.up 22 (by decide)
          · have HJ := Lib.hid hJ
            have d19 : vs 19 = .bool true := hJ.ev 19 (by decide) (hd 19 (by kernel_rfl))
            have d22 : vs 22 = (Value.pointer (some ⟨b, 0, none⟩)) := hJ.ev 22 (by decide) (hd 22 (by kernel_rfl))
            obtain ⟨y0, y1, y2, y3, y4, ⟨yb, ys⟩, y6, y7, y8⟩ := HX.out w (below_on hB5 hJ.bl)
            clear hJ hd hcl
            simp only [Par.GivesW, d19, d22]
            go_simp
            all_goals exact HJ.out.up 23 (by decide)
          · have HJ := Lib.hid hJ
            have d19 : vs 19 = .bool true := hJ.ev 19 (by decide) (hd 19 (by kernel_rfl))
            have d23 : vs 23 = (Value.pointer (some ⟨b, 0, none⟩)) := hJ.ev 23 (by decide) (hd 23 (by kernel_rfl))
            obtain ⟨y0, y1, y2, y3, y4, ⟨yb, ys⟩, y6, y7, y8⟩ := HX.out w (below_on hB5 hJ.bl)
            clear hJ hd hcl
            simp only [Par.GivesW, d19, d23]
            go_simp
            all_goals exact HJ.out.up 24 (by decide)
          · have HJ := Lib.hid hJ
            have d19 : vs 19 = .bool true := hJ.ev 19 (by decide) (hd 19 (by kernel_rfl))
            have d24 : vs 24 = (Value.pointer (some ⟨b, 2, none⟩)) := hJ.ev 24 (by decide) (hd 24 (by kernel_rfl))
            obtain ⟨y0, y1, y2, y3, y4, ⟨yb, ys⟩, y6, y7, y8⟩ := HX.out w (below_on hB5 hJ.bl)
            clear hJ hd hcl
            simp only [Par.GivesW, d19, d24]
            go_simp
            all_goals exact HJ.out.up 25 (by decide)
          · have HJ := Lib.hid hJ
            have d19 : vs 19 = .bool true := hJ.ev 19 (by decide) (hd 19 (by kernel_rfl))
            have d25 : vs 25 = .slice (some ⟨gn, 0, none⟩) 1 cn := hJ.ev 25 (by decide) (hd 25 (by kernel_rfl))
            obtain ⟨y0, y1, y2, y3, y4, ⟨yb, ys⟩, y6, y7, y8⟩ := HX.out w (below_on hB5 hJ.bl)
            clear hJ hd hcl
            simp only [Par.GivesW, d19, d25]
            go_simp
            all_goals exact HJ.out.up 26 (by decide)
          · have HJ := Lib.hid hJ
            have d19 : vs 19 = .bool true := hJ.ev 19 (by decide) (hd 19 (by kernel_rfl))
            have d26 : vs 26 = (Value.pointer (some ⟨gn, 0, none⟩)) := hJ.ev 26 (by decide) (hd 26 (by kernel_rfl))
            obtain ⟨y0, y1, y2, y3, y4, ⟨yb, ys⟩, y6, y7, y8⟩ := HX.out w (below_on hB5 hJ.bl)
            clear hJ hd hcl
            simp only [Par.GivesW, d19, d26]
            go_simp
            all_goals exact HJ.out.up 27 (by decide)
          · have HJ := Lib.hid hJ
            have d19 : vs 19 = .bool true := hJ.ev 19 (by decide) (hd 19 (by kernel_rfl))
            have d21 : vs 21 = (Value.int .i64 ((next : Int))) := hJ.ev 21 (by decide) (hd 21 (by kernel_rfl))
            have d27 : vs 27 = (Value.int .i64 ((next : Int))) := hJ.ev 27 (by decide) (hd 27 (by kernel_rfl))
            obtain ⟨y0, y1, y2, y3, y4, ⟨yb, ys⟩, y6, y7, y8⟩ := HX.out w (below_on hB5 hJ.bl)
            clear hJ hd hcl
            simp only [Par.GivesW, d19, d21, d27]
            go_simp
            all_goals exact HJ.out.up 28 (by decide)
          · have HJ := Lib.hid hJ
            have d19 : vs 19 = .bool true := hJ.ev 19 (by decide) (hd 19 (by kernel_rfl))
            have d28 : vs 28 = .bool true := hJ.ev 28 (by decide) (hd 28 (by kernel_rfl))
            obtain ⟨y0, y1, y2, y3, y4, ⟨yb, ys⟩, y6, y7, y8⟩ := HX.out w (below_on hB5 hJ.bl)
            clear hJ hd hcl
            simp only [Par.GivesW, d19, d28]
            go_simp
            all_goals exact HJ.out.up 29 (by decide)
          · have HJ := Lib.hid hJ
            have d29 : vs 29 = .bool true := hJ.ev 29 (by decide) (hd 29 (by kernel_rfl))
            obtain ⟨y0, y1, y2, y3, y4, ⟨yb, ys⟩, y6, y7, y8⟩ := HX.out w (below_on hB5 hJ.bl)
            clear hJ hd hcl
            simp only [Par.GivesW, d29]
            go_simp
            all_goals exact HJ.out.up 30 (by decide)
          · have HJ := Lib.hid hJ
            have d30 : vs 30 = .bool true := hJ.ev 30 (by decide) (hd 30 (by kernel_rfl))
            obtain ⟨y0, y1, y2, y3, y4, ⟨yb, ys⟩, y6, y7, y8⟩ := HX.out w (below_on hB5 hJ.bl)
            clear hJ hd hcl
            simp only [Par.GivesW, d30]
            go_simp
            all_goals exact HJ.out.up 31 (by decide)
          · have HJ := Lib.hid hJ
            have d30 : vs 30 = .bool true := hJ.ev 30 (by decide) (hd 30 (by kernel_rfl))
            have d31 : vs 31 = (Value.pointer (some ⟨tb, 0, none⟩)) := hJ.ev 31 (by decide) (hd 31 (by kernel_rfl))
            obtain ⟨y0, y1, y2, y3, y4, ⟨yb, ys⟩, y6, y7, y8⟩ := HX.out w (below_on hB5 hJ.bl)
            have hbw := below_on hB5 hJ.bl
            have hc := tb_live (HT.out w hbw)
            clear hJ hd hcl
            simp only [Par.GivesW, d30, d31]
            go_simp
            refine hc.mono ?_
            rintro e y ⟨p9, n9, c9, rfl, hv9, hb9⟩
            exact ⟨_, rfl, HJ.out.s32 hb9 hv9⟩
          · have HJ := Lib.hid hJ
            have d30 : vs 30 = .bool true := hJ.ev 30 (by decide) (hd 30 (by kernel_rfl))
            obtain ⟨y0, y1, y2, y3, y4, ⟨yb, ys⟩, y6, y7, y8⟩ := HX.out w (below_on hB5 hJ.bl)
            clear hJ hd hcl
            simp only [Par.GivesW, d30]
            go_simp
            all_goals exact HJ.out.up 33 (by decide)
          · have HJ := Lib.hid hJ
            have d30 : vs 30 = .bool true := hJ.ev 30 (by decide) (hd 30 (by kernel_rfl))
            have d33 : vs 33 = .slice pi ni ci := hJ.ev 33 (by decide) (hd 33 (by kernel_rfl))
            obtain ⟨y0, y1, y2, y3, y4, ⟨yb, ys⟩, y6, y7, y8⟩ := HX.out w (below_on hB5 hJ.bl)
            have hbw := below_on hB5 hJ.bl
            have hc := HS.out w hJ.bl
            clear hJ hd hcl
            simp only [Par.GivesW, d30, d33]
            go_simp
            refine hc.mono ?_
            rintro e y ⟨p9, n9, c9, rfl, hn9, hr9, hb9⟩
            exact ⟨_, rfl, HJ.out.s34 hb9 hn9 hr9⟩
          · have HJ := Lib.hid hJ
            have d30 : vs 30 = .bool true := hJ.ev 30 (by decide) (hd 30 (by kernel_rfl))
            obtain ⟨y0, y1, y2, y3, y4, ⟨yb, ys⟩, y6, y7, y8⟩ := HX.out w (below_on hB5 hJ.bl)
            have hbw := below_on hB5 hJ.bl
            obtain ⟨p8, n8, c8, d32, hv8⟩ := hJ.f32 (hd 32 (by kernel_rfl))
            obtain ⟨p9, n9, c9, d34, hn9, hr9⟩ := hJ.f34 (hd 34 (by kernel_rfl))
            have hc := same_any _ p9 n9 c9 w hn9 rfl hv8 hr9
            clear hJ hd hcl
            simp only [Par.GivesW, d30, d32, d34]
            go_simp
            refine hc.mono ?_
            rintro e y ⟨rfl, hb9⟩
            exact ⟨_, rfl, (HJ.out.up 35 (by decide)).later hb9⟩
          · have HJ := Lib.hid hJ
            have d30 : vs 30 = .bool true := hJ.ev 30 (by decide) (hd 30 (by kernel_rfl))
            have d35 : vs 35 = .bool true := hJ.ev 35 (by decide) (hd 35 (by kernel_rfl))
            obtain ⟨y0, y1, y2, y3, y4, ⟨yb, ys⟩, y6, y7, y8⟩ := HX.out w (below_on hB5 hJ.bl)
            clear hJ hd hcl
            simp only [Par.GivesW, d30, d35]
            go_simp
            all_goals exact HJ.out.up 36 (by decide)
          · have HJ := Lib.hid hJ
            have d36 : vs 36 = .bool true := hJ.ev 36 (by decide) (hd 36 (by kernel_rfl))
            obtain ⟨y0, y1, y2, y3, y4, ⟨yb, ys⟩, y6, y7, y8⟩ := HX.out w (below_on hB5 hJ.bl)
            clear hJ hd hcl
            simp only [Par.GivesW, d36]
            go_simp
            all_goals exact HJ.out.up 37 (by decide)
          · have HJ := Lib.hid hJ
            have d37 : vs 37 = .bool true := hJ.ev 37 (by decide) (hd 37 (by kernel_rfl))
            obtain ⟨y0, y1, y2, y3, y4, ⟨yb, ys⟩, y6, y7, y8⟩ := HX.out w (below_on hB5 hJ.bl)
            clear hJ hd hcl
            simp only [Par.GivesW, d37]
            go_simp
            all_goals exact HJ.out.up 38 (by decide)
          · have HJ := Lib.hid hJ
            have d37 : vs 37 = .bool true := hJ.ev 37 (by decide) (hd 37 (by kernel_rfl))
            have d38 : vs 38 = (Value.pointer (some ⟨tb, 0, none⟩)) := hJ.ev 38 (by decide) (hd 38 (by kernel_rfl))
            obtain ⟨y0, y1, y2, y3, y4, ⟨yb, ys⟩, y6, y7, y8⟩ := HX.out w (below_on hB5 hJ.bl)
            have hbw := below_on hB5 hJ.bl
            have hc := HF.out w hbw
            clear hJ hd hcl
            simp only [Par.GivesW, d37, d38]
            go_simp
            refine hc.mono ?_
            rintro e y ⟨p1, c1, p2, c2, rfl, hr9, hb9⟩
            exact ⟨_, rfl, HJ.out.s39 hb9 hr9⟩
          · have HJ := Lib.hid hJ
            have d37 : vs 37 = .bool true := hJ.ev 37 (by decide) (hd 37 (by kernel_rfl))
            obtain ⟨y0, y1, y2, y3, y4, ⟨yb, ys⟩, y6, y7, y8⟩ := HX.out w (below_on hB5 hJ.bl)
            clear hJ hd hcl
            simp only [Par.GivesW, d37]
            go_simp
            all_goals exact HJ.out.up 40 (by decide)
          · have HJ := Lib.hid hJ
            have d37 : vs 37 = .bool true := hJ.ev 37 (by decide) (hd 37 (by kernel_rfl))
            have d40 : vs 40 = (Value.pointer (some ⟨b, 0, none⟩)) := hJ.ev 40 (by decide) (hd 40 (by kernel_rfl))
            obtain ⟨y0, y1, y2, y3, y4, ⟨yb, ys⟩, y6, y7, y8⟩ := HX.out w (below_on hB5 hJ.bl)
            clear hJ hd hcl
            simp only [Par.GivesW, d37, d40]
            go_simp
            all_goals exact HJ.out.up 41 (by decide)
          · have HJ := Lib.hid hJ
            have d37 : vs 37 = .bool true := hJ.ev 37 (by decide) (hd 37 (by kernel_rfl))
            have d41 : vs 41 = (Value.pointer (some ⟨b, 0, none⟩)) := hJ.ev 41 (by decide) (hd 41 (by kernel_rfl))
            obtain ⟨y0, y1, y2, y3, y4, ⟨yb, ys⟩, y6, y7, y8⟩ := HX.out w (below_on hB5 hJ.bl)
            clear hJ hd hcl
            simp only [Par.GivesW, d37, d41]
            go_simp
            all_goals exact HJ.out.up 42 (by decide)
          · have HJ := Lib.hid hJ
            have d37 : vs 37 = .bool true := hJ.ev 37 (by decide) (hd 37 (by kernel_rfl))
            have d42 : vs 42 = (Value.pointer (some ⟨b, 0, none⟩)) := hJ.ev 42 (by decide) (hd 42 (by kernel_rfl))
            obtain ⟨y0, y1, y2, y3, y4, ⟨yb, ys⟩, y6, y7, y8⟩ := HX.out w (below_on hB5 hJ.bl)
            clear hJ hd hcl
            simp only [Par.GivesW, d37, d42]
            go_simp
            all_goals exact HJ.out.up 43 (by decide)
          · have HJ := Lib.hid hJ
            have d37 : vs 37 = .bool true := hJ.ev 37 (by decide) (hd 37 (by kernel_rfl))
            have d43 : vs 43 = .slice (some ⟨gs, 0, none⟩) 1 cs := hJ.ev 43 (by decide) (hd 43 (by kernel_rfl))
            obtain ⟨y0, y1, y2, y3, y4, ⟨yb, ys⟩, y6, y7, y8⟩ := HX.out w (below_on hB5 hJ.bl)
            clear hJ hd hcl
            simp only [Par.GivesW, d37, d43]
            go_simp
            all_goals exact HJ.out.up 44 (by decide)
          · have HJ := Lib.hid hJ
            have d37 : vs 37 = .bool true := hJ.ev 37 (by decide) (hd 37 (by kernel_rfl))
            have d44 : vs 44 = (Value.pointer (some ⟨gs, 0, none⟩)) := hJ.ev 44 (by decide) (hd 44 (by kernel_rfl))
            obtain ⟨y0, y1, y2, y3, y4, ⟨yb, ys⟩, y6, y7, y8⟩ := HX.out w (below_on hB5 hJ.bl)
            clear hJ hd hcl
            simp only [Par.GivesW, d37, d44]
            go_simp
            all_goals exact HJ.out.up 45 (by decide)
          · have HJ := Lib.hid hJ
            have d37 : vs 37 = .bool true := hJ.ev 37 (by decide) (hd 37 (by kernel_rfl))
            obtain ⟨y0, y1, y2, y3, y4, ⟨yb, ys⟩, y6, y7, y8⟩ := HX.out w (below_on hB5 hJ.bl)
            have hbw := below_on hB5 hJ.bl
            have d45 : vs 45 = .agg #[.string nm, .slice pc nc kc, .string key, .slice pd nd kd] := hJ.ev 45 (by decide) (hd 45 (by kernel_rfl))
            obtain ⟨p1, c1, p2, c2, d39, hr9⟩ := hJ.f39 (hd 39 (by kernel_rfl))
            have hc := HE.out w _ _ _ _ hbw hr9
            clear hJ hd hcl
            simp only [Par.GivesW, d37, d39, d45]
            go_simp
            refine hc.mono ?_
            rintro e y ⟨rfl, hb9⟩
            exact ⟨_, rfl, (HJ.out.up 46 (by decide)).later hb9⟩
          · have HJ := Lib.hid hJ
            have d37 : vs 37 = .bool true := hJ.ev 37 (by decide) (hd 37 (by kernel_rfl))
            have d46 : vs 46 = .bool true := hJ.ev 46 (by decide) (hd 46 (by kernel_rfl))
            obtain ⟨y0, y1, y2, y3, y4, ⟨yb, ys⟩, y6, y7, y8⟩ := HX.out w (below_on hB5 hJ.bl)
            clear hJ hd hcl
            simp only [Par.GivesW, d37, d46]
            go_simp
            all_goals exact HJ.out.up 47 (by decide)
        case hTAt =>
          intro l vs w7 hl hJ
          simp only [List.drop_succ_cons, List.drop_zero]
          have d47 : vs 47 = .bool true := hJ.ev 47 (by decide) (hl 47 (by decide))
          have H7 := Lib.hid (below_on hB5 hJ.bl)
          simp only [d47]
          generalize vs 0 = s0
          generalize vs 1 = s1
          generalize vs 2 = s2
          generalize vs 3 = s3
          generalize vs 4 = s4
          generalize vs 5 = s5
          generalize vs 6 = s6
          generalize vs 7 = s7
          generalize vs 8 = s8
          generalize vs 9 = s9
          generalize vs 10 = s10
          generalize vs 11 = s11
          generalize vs 12 = s12
          generalize vs 13 = s13
          generalize vs 14 = s14
          generalize vs 15 = s15
          generalize vs 16 = s16
          generalize vs 17 = s17
          generalize vs 18 = s18
          generalize vs 19 = s19
          generalize vs 20 = s20
          generalize vs 21 = s21
          generalize vs 22 = s22
          generalize vs 23 = s23
          generalize vs 24 = s24
          generalize vs 25 = s25
          generalize vs 26 = s26
          generalize vs 27 = s27
          generalize vs 28 = s28
          generalize vs 29 = s29
          generalize vs 30 = s30
          generalize vs 31 = s31
          generalize vs 32 = s32
          generalize vs 33 = s33
          generalize vs 34 = s34
          generalize vs 35 = s35
          generalize vs 36 = s36
          generalize vs 37 = s37
          generalize vs 38 = s38
          generalize vs 39 = s39
          generalize vs 40 = s40
          generalize vs 41 = s41
          generalize vs 42 = s42
          generalize vs 43 = s43
          generalize vs 44 = s44
          generalize vs 45 = s45
          generalize vs 46 = s46
          clear hJ hl d47
          go_wp2_with fail
          go_ret
          exact ⟨rfl, H7.out⟩
      · have hno : ∀ a ∈ A, a.1 ≠ ask := fun a ha e => hin ⟨a, ha, e⟩
        have hrow : Calls Tryz.prog 23 #[(Value.pointer (some ⟨tb, 0, none⟩)), .int .i64 ask] wc fun e w' => ∃ p m c, e = .returned (.tuple #[.slice p m c, .bool false]) ∧ Below wc.heap.size wc w' := (tb_row_no (HT.out wc hB5) hask hno).mono (by
          rintro e w' ⟨rfl, rfl⟩
          exact ⟨_, _, _, rfl, Below.refl _ _⟩)
        have hget : ∀ w, Below W.heap.size W w → ∃ u : T3, Calls Tryz.prog 27 #[(Value.pointer (some ⟨tb, 0, none⟩)), .int .i64 ask, .string col] w fun e w' => e = .returned (.tuple #[(Value.agg #[Value.int .i64 (u.1), Value.int .i64 (u.2.1), Value.string (u.2.2)]), .bool false]) ∧ Below w.heap.size w w' := fun w hb => ⟨z3, tb_get_no (HT.out w hb) hask (.inl hno)⟩
        have HHs : Hid (∀ w p m c, (elems (idsP A)).length = m → Rd w p (elems (idsP A)) → Calls Tryz.prog 51 #[.slice p m c, .int .i64 ask] w fun e w' => e = .returned (.bool false) ∧ w' = w) := Lib.hid (fun w p m c hm hr => sethas_any _ p m c w hm (by have := elems_len (idsP A); omega) hr ask false (by
          constructor
          · exact fun h => by cases h
          · intro h
            obtain ⟨a, ha, e⟩ := idsP_iff.1 (mem_elems.1 h).2
            exact absurd e (hno a ha)))
        clear hin hno
        have H0 := Lib.hid hB5
        clear hB5
        go_upto_region 22 with (go_at_call 23; (with_reducible refine hrow.mono ?_); rintro e w2 ⟨pv, mv, cv, rfl, hb2⟩; have hget := hget w2 (below_on H0.out hb2); have H2 := Lib.hid hb2; clear hrow hb2)
        obtain ⟨ug, hget⟩ := hget
        go_upto_region 23 with (go_at_call 27; (with_reducible refine hget.mono ?_); rintro e w3 ⟨rfl, hb3⟩; have H3 := Lib.hid (below_on H2.out hb3); clear hget hb3)
        have hbV := below_alloc w3 (.cells #[.int .i64 ug.1, .int .i64 ug.2.1, .string ug.2.2] 53)
        obtain ⟨w4, hw4⟩ : ∃ w4, w3.alloc (.cells #[.int .i64 ug.1, .int .i64 ug.2.1, .string ug.2.2] 53) = w4 := ⟨_, rfl⟩
        rw [hw4] at hbV ⊢
        have hset := HS.out w4 (below_on H3.out hbV)
        have H4 := Lib.hid (below_on H3.out hbV)
        clear hw4 hbV
        go_upto_region 24 with (first
          | (go_at_call 50; (with_reducible refine hset.mono ?_); rintro e w5 ⟨ps, ms, cs', rfl, hm5, hr5, hb5⟩; have hhas := HHs.out w5 ps ms cs' hm5 hr5; have H5 := Lib.hid (below_on H4.out hb5); clear hset hm5 hr5 hb5)
          | (go_at_call 51; (with_reducible refine hhas.mono ?_); rintro e w6 ⟨rfl, hw⟩; subst w6; clear hhas))
        have hB5 : Below W.heap.size W w5 := below_on H0.out H5.out
        have HS : Hid (∀ w, Below w5.heap.size w5 w → Calls Tryz.prog 50 #[.slice pi ni ci] w fun e w' => ∃ p m c, e = .returned (.slice p m c) ∧ (elems (idsP A)).length = m ∧ Rd w' p (elems (idsP A)) ∧ Below w.heap.size w w') := Lib.hid (fun w hb => HS.out w (below_on H5.out hb))
        refine Par.wp_region_par4 48 (QJ w5 (fun idx => [.bool false, .bool false, .bool true, .bool true, .bool false, .bool false, .bool false, undef, undef, undef, undef, undef, undef, undef, undef, undef, .bool false, .bool true, .bool true, .bool true, (Value.pointer (some ⟨tb, 0, none⟩)), (Value.int .i64 ((next : Int))), (Value.pointer (some ⟨b, 0, none⟩)), (Value.pointer (some ⟨b, 0, none⟩)), (Value.pointer (some ⟨b, 2, none⟩)), .slice (some ⟨gn, 0, none⟩) 1 cn, (Value.pointer (some ⟨gn, 0, none⟩)), (Value.int .i64 ((next : Int))), .bool true, .bool true, .bool true, (Value.pointer (some ⟨tb, 0, none⟩)), undef, .slice pi ni ci, undef, .bool true, .bool true, .bool true, (Value.pointer (some ⟨tb, 0, none⟩)), undef, (Value.pointer (some ⟨b, 0, none⟩)), (Value.pointer (some ⟨b, 0, none⟩)), (Value.pointer (some ⟨b, 0, none⟩)), .slice (some ⟨gs, 0, none⟩) 1 cs, (Value.pointer (some ⟨gs, 0, none⟩)), .agg #[.string nm, .slice pc nc kc, .string key, .slice pd nd kd], .bool true, .bool true].getD idx undef) (idsP A) t nm key nc nd) ?AAf ?hmAf ?hBAf ?hAAf ?hJAf ?hopAf ?hTAf
        case hmAf => kernel_rfl
        case hBAf => kernel_rfl
        case hAAf =>
          intro vs
          simp only [Par.putA, Par.dstAt, Act.put, List.getElem?_toArray, List.getElem?_cons_zero, List.getElem?_cons_succ, Option.bind_some, List.setIfInBounds_toArray, List.set_cons_zero, List.set_cons_succ]
          rfl
        case hJAf =>
          intro vs
          exact ⟨below_drew w5, fun _ _ h => (by cases h), fun h => (by cases h), fun h => (by cases h), fun h => (by cases h)⟩
        case hopAf =>
          simp only [List.take_succ_cons, List.take_zero, Par.GiveAllK, and_true]
          refine ⟨fun l vs w hJ hl hd hcl => ?_, fun l vs w hJ hl hd hcl => ?_, fun l vs w hJ hl hd hcl => ?_, fun l vs w hJ hl hd hcl => ?_, fun l vs w hJ hl hd hcl => ?_, fun l vs w hJ hl hd hcl => ?_, fun l vs w hJ hl hd hcl => ?_, fun l vs w hJ hl hd hcl => ?_, fun l vs w hJ hl hd hcl => ?_, fun l vs w hJ hl hd hcl => ?_, fun l vs w hJ hl hd hcl => ?_, fun l vs w hJ hl hd hcl => ?_, fun l vs w hJ hl hd hcl => ?_, fun l vs w hJ hl hd hcl => ?_, fun l vs w hJ hl hd hcl => ?_, fun l vs w hJ hl hd hcl => ?_, fun l vs w hJ hl hd hcl => ?_, fun l vs w hJ hl hd hcl => ?_, fun l vs w hJ hl hd hcl => ?_, fun l vs w hJ hl hd hcl => ?_, fun l vs w hJ hl hd hcl => ?_, fun l vs w hJ hl hd hcl => ?_, fun l vs w hJ hl hd hcl => ?_, fun l vs w hJ hl hd hcl => ?_, fun l vs w hJ hl hd hcl => ?_, fun l vs w hJ hl hd hcl => ?_, fun l vs w hJ hl hd hcl => ?_, fun l vs w hJ hl hd hcl => ?_, fun l vs w hJ hl hd hcl => ?_, fun l vs w hJ hl hd hcl => ?_, fun l vs w hJ hl hd hcl => ?_, fun l vs w hJ hl hd hcl => ?_, fun l vs w hJ hl hd hcl => ?_, fun l vs w hJ hl hd hcl => ?_, fun l vs w hJ hl hd hcl => ?_, fun l vs w hJ hl hd hcl => ?_, fun l vs w hJ hl hd hcl => ?_, fun l vs w hJ hl hd hcl => ?_, fun l vs w hJ hl hd hcl => ?_, fun l vs w hJ hl hd hcl => ?_, fun l vs w hJ hl hd hcl => ?_, fun l vs w hJ hl hd hcl => ?_, fun l vs w hJ hl hd hcl => ?_, fun l vs w hJ hl hd hcl => ?_, fun l vs w hJ hl hd hcl => ?_, fun l vs w hJ hl hd hcl => ?_, fun l vs w hJ hl hd hcl => ?_, fun l vs w hJ hl hd hcl => ?_⟩
          · have HJ := Lib.hid hJ
            obtain ⟨y0, y1, y2, y3, y4, ⟨yb, ys⟩, y6, y7, y8⟩ := HX.out w (below_on hB5 hJ.bl)
            clear hJ hd hcl
            simp only [Par.GivesW]
            go_simp
            all_goals exact HJ.out.up 0 (by decide)
          · have HJ := Lib.hid hJ
            obtain ⟨y0, y1, y2, y3, y4, ⟨yb, ys⟩, y6, y7, y8⟩ := HX.out w (below_on hB5 hJ.bl)
            clear hJ hd hcl
            simp only [Par.GivesW]
            go_simp
            all_goals exact HJ.out.up 1 (by decide)
          · have HJ := Lib.hid hJ
            have d0 : vs 0 = .bool false := hJ.ev 0 (by decide) (hd 0 (by kernel_rfl))
            have d1 : vs 1 = .bool false := hJ.ev 1 (by decide) (hd 1 (by kernel_rfl))
            obtain ⟨y0, y1, y2, y3, y4, ⟨yb, ys⟩, y6, y7, y8⟩ := HX.out w (below_on hB5 hJ.bl)
            clear hJ hd hcl
            simp only [Par.GivesW, d0, d1]
            go_simp
            all_goals exact HJ.out.up 2 (by decide)
          · have HJ := Lib.hid hJ
            have d2 : vs 2 = .bool true := hJ.ev 2 (by decide) (hd 2 (by kernel_rfl))
            obtain ⟨y0, y1, y2, y3, y4, ⟨yb, ys⟩, y6, y7, y8⟩ := HX.out w (below_on hB5 hJ.bl)
            clear hJ hd hcl
            simp only [Par.GivesW, d2]
            go_simp
            all_goals exact HJ.out.up 3 (by decide)
          · have HJ := Lib.hid hJ
            have d3 : vs 3 = .bool true := hJ.ev 3 (by decide) (hd 3 (by kernel_rfl))
            obtain ⟨y0, y1, y2, y3, y4, ⟨yb, ys⟩, y6, y7, y8⟩ := HX.out w (below_on hB5 hJ.bl)
            clear hJ hd hcl
            simp only [Par.GivesW, d3]
            go_simp
            all_goals exact HJ.out.up 4 (by decide)
          · have HJ := Lib.hid hJ
            have d3 : vs 3 = .bool true := hJ.ev 3 (by decide) (hd 3 (by kernel_rfl))
            obtain ⟨y0, y1, y2, y3, y4, ⟨yb, ys⟩, y6, y7, y8⟩ := HX.out w (below_on hB5 hJ.bl)
            clear hJ hd hcl
            simp only [Par.GivesW, d3]
            go_simp
            all_goals exact HJ.out.up 5 (by decide)
          · have HJ := Lib.hid hJ
            have d3 : vs 3 = .bool true := hJ.ev 3 (by decide) (hd 3 (by kernel_rfl))
            have d5 : vs 5 = .bool false := hJ.ev 5 (by decide) (hd 5 (by kernel_rfl))
            obtain ⟨y0, y1, y2, y3, y4, ⟨yb, ys⟩, y6, y7, y8⟩ := HX.out w (below_on hB5 hJ.bl)
            clear hJ hd hcl
            simp only [Par.GivesW, d3, d5]
            go_simp
            all_goals exact HJ.out.up 6 (by decide)
          · have HJ := Lib.hid hJ
            have d6 : vs 6 = .bool false := hJ.ev 6 (by decide) (hd 6 (by kernel_rfl))
            obtain ⟨y0, y1, y2, y3, y4, ⟨yb, ys⟩, y6, y7, y8⟩ := HX.out w (below_on hB5 hJ.bl)
            clear hJ hd hcl
            simp only [Par.GivesW, d6]
            go_simp
            all_goals exact HJ.out.up 7 (by decide)
          · have HJ := Lib.hid hJ
            have d6 : vs 6 = .bool false := hJ.ev 6 (by decide) (hd 6 (by kernel_rfl))
            obtain ⟨y0, y1, y2, y3, y4, ⟨yb, ys⟩, y6, y7, y8⟩ := HX.out w (below_on hB5 hJ.bl)
            clear hJ hd hcl
            simp only [Par.GivesW, d6]
            go_simp
            all_goals exact HJ.out.up 8 (by decide)
          · have HJ := Lib.hid hJ
            have d6 : vs 6 = .bool false := hJ.ev 6 (by decide) (hd 6 (by kernel_rfl))
            obtain ⟨y0, y1, y2, y3, y4, ⟨yb, ys⟩, y6, y7, y8⟩ := HX.out w (below_on hB5 hJ.bl)
            clear hJ hd hcl
            simp only [Par.GivesW, d6]
            go_simp
            all_goals exact HJ.out.up 9 (by decide)
          · have HJ := Lib.hid hJ
            have d6 : vs 6 = .bool false := hJ.ev 6 (by decide) (hd 6 (by kernel_rfl))
            obtain ⟨y0, y1, y2, y3, y4, ⟨yb, ys⟩, y6, y7, y8⟩ := HX.out w (below_on hB5 hJ.bl)
            clear hJ hd hcl
            simp only [Par.GivesW, d6]
            go_simp
            all_goals exact HJ.out.up 10 (by decide)
          · have HJ := Lib.hid hJ
            have d6 : vs 6 = .bool false := hJ.ev 6 (by decide) (hd 6 (by kernel_rfl))
            obtain ⟨y0, y1, y2, y3, y4, ⟨yb, ys⟩, y6, y7, y8⟩ := HX.out w (below_on hB5 hJ.bl)
            clear hJ hd hcl
            simp only [Par.GivesW, d6]
            go_simp
            all_goals exact HJ.out.up 11 (by decide)
          · have HJ := Lib.hid hJ
            have d6 : vs 6 = .bool false := hJ.ev 6 (by decide) (hd 6 (by kernel_rfl))
            obtain ⟨y0, y1, y2, y3, y4, ⟨yb, ys⟩, y6, y7, y8⟩ := HX.out w (below_on hB5 hJ.bl)
            clear hJ hd hcl
            simp only [Par.GivesW, d6]
            go_simp
            all_goals exact HJ.out.up 12 (by decide)
          · have HJ := Lib.hid hJ
            have d6 : vs 6 = .bool false := hJ.ev 6 (by decide) (hd 6 (by kernel_rfl))
            obtain ⟨y0, y1, y2, y3, y4, ⟨yb, ys⟩, y6, y7, y8⟩ := HX.out w (below_on hB5 hJ.bl)
            clear hJ hd hcl
            simp only [Par.GivesW, d6]
            go_simp
            all_goals exact HJ.out.up 13 (by decide)
          · have HJ := Lib.hid hJ
            have d6 : vs 6 = .bool false := hJ.ev 6 (by decide) (hd 6 (by kernel_rfl))
            obtain ⟨y0, y1, y2, y3, y4, ⟨yb, ys⟩, y6, y7, y8⟩ := HX.out w (below_on hB5 hJ.bl)
            clear hJ hd hcl
            simp only [Par.GivesW, d6]
            go_simp
            all_goals exact HJ.out.up 14 (by decide)
          · have HJ := Lib.hid hJ
            have d6 : vs 6 = .bool false := hJ.ev 6 (by decide) (hd 6 (by kernel_rfl))
            obtain ⟨y0, y1, y2, y3, y4, ⟨yb, ys⟩, y6, y7, y8⟩ := HX.out w (below_on hB5 hJ.bl)
            clear hJ hd hcl
            simp only [Par.GivesW, d6]
            go_simp
            all_goals exact HJ.out.up 15 (by decide)
          · have HJ := Lib.hid hJ
            have d3 : vs 3 = .bool true := hJ.ev 3 (by decide) (hd 3 (by kernel_rfl))
            have d6 : vs 6 = .bool false := hJ.ev 6 (by decide) (hd 6 (by kernel_rfl))
            obtain ⟨y0, y1, y2, y3, y4, ⟨yb, ys⟩, y6, y7, y8⟩ := HX.out w (below_on hB5 hJ.bl)
            clear hJ hd hcl
            simp only [Par.GivesW, d3, d6]
            go_simp
            all_goals exact HJ.out.up 16 (by decide)
          · have HJ := Lib.hid hJ
            have d3 : vs 3 = .bool true := hJ.ev 3 (by decide) (hd 3 (by kernel_rfl))
            have d4 : vs 4 = .bool false := hJ.ev 4 (by decide) (hd 4 (by kernel_rfl))
            have d16 : vs 16 = .bool false := hJ.ev 16 (by decide) (hd 16 (by kernel_rfl))
            obtain ⟨y0, y1, y2, y3, y4, ⟨yb, ys⟩, y6, y7, y8⟩ := HX.out w (below_on hB5 hJ.bl)
            clear hJ hd hcl
            simp only [Par.GivesW, d3, d4, d16]
            go_simp
            all_goals exact HJ.out.up 17 (by decide)
          · have HJ := Lib.hid hJ
            have d3 : vs 3 = .bool true := hJ.ev 3 (by decide) (hd 3 (by kernel_rfl))
            have d17 : vs 17 = .bool true := hJ.ev 17 (by decide) (hd 17 (by kernel_rfl))
            obtain ⟨y0, y1, y2, y3, y4, ⟨yb, ys⟩, y6, y7, y8⟩ := HX.out w (below_on hB5 hJ.bl)
            clear hJ hd hcl
            simp only [Par.GivesW, d3, d17]
            go_simp
            all_goals exact HJ.out.up 18 (by decide)
          · have HJ := Lib.hid hJ
            have d18 : vs 18 = .bool true := hJ.ev 18 (by decide) (hd 18 (by kernel_rfl))
            obtain ⟨y0, y1, y2, y3, y4, ⟨yb, ys⟩, y6, y7, y8⟩ := HX.out w (below_on hB5 hJ.bl)
            clear hJ hd hcl
            simp only [Par.GivesW, d18]
            go_simp
            all_goals exact HJ.out.up 19 (by decide)
          · have HJ := Lib.hid hJ
            have d19 : vs 19 = .bool true := hJ.ev 19 (by decide) (hd 19 (by kernel_rfl))
            obtain ⟨y0, y1, y2, y3, y4, ⟨yb, ys⟩, y6, y7, y8⟩ := HX.out w (below_on hB5 hJ.bl)
            clear hJ hd hcl
            simp only [Par.GivesW, d19]
            go_simp
            all_goals exact HJ.out.up 20 (by decide)
          · have HJ := Lib.hid hJ
            have d19 : vs 19 = .bool true := hJ.ev 19 (by decide) (hd 19 (by kernel_rfl))
            have d20 : vs 20 = (Value.pointer (some ⟨tb, 0, none⟩)) := hJ.ev 20 (by decide) (hd 20 (by kernel_rfl))
            obtain ⟨y0, y1, y2, y3, y4, ⟨yb, ys⟩, y6, y7, y8⟩ := HX.out w (below_on hB5 hJ.bl)
            have hbw := below_on hB5 hJ.bl
            have hc := tb_next (HT.out w hbw)
            clear hJ hd hcl
            simp only [Par.GivesW, d19, d20]
            go_simp
            refine hc.mono ?_
            rintro e y ⟨rfl, rfl⟩
            exact ⟨_, rfl, HJ.out.up 21 (by decide)⟩
          · have HJ := Lib.hid hJ
            have d19 : vs 19 = .bool true := hJ.ev 19 (by decide) (hd 19 (by kernel_rfl))
            obtain ⟨y0, y1, y2, y3, y4, ⟨yb, ys⟩, y6, y7, y8⟩ := HX.out w (below_on hB5 hJ.bl)
            clear hJ hd hcl
            simp only [Par.GivesW, d19]
            go_simp
            all_goals exact HJ.out.up 22 (by decide)
          · have HJ := Lib.hid hJ
            have d19 : vs 19 = .bool true := hJ.ev 19 (by decide) (hd 19 (by kernel_rfl))
            have d22 : vs 22 = (Value.pointer (some ⟨b, 0, none⟩)) := hJ.ev 22 (by decide) (hd 22 (by kernel_rfl))
            obtain ⟨y0, y1, y2, y3, y4, ⟨yb, ys⟩, y6, y7, y8⟩ := HX.out w (below_on hB5 hJ.bl)
            clear hJ hd hcl
            simp only [Par.GivesW, d19, d22]
            go_simp
            all_goals exact HJ.out.up 23 (by decide)
          · have HJ := Lib.hid hJ
            have d19 : vs 19 = .bool true := hJ.ev 19 (by decide) (hd 19 (by kernel_rfl))
            have d23 : vs 23 = (Value.pointer (some ⟨b, 0, none⟩)) := hJ.ev 23 (by decide) (hd 23 (by kernel_rfl))
            obtain ⟨y0, y1, y2, y3, y4, ⟨yb, ys⟩, y6, y7, y8⟩ := HX.out w (below_on hB5 hJ.bl)
            clear hJ hd hcl
            simp only [Par.GivesW, d19, d23]
            go_simp
            all_goals exact HJ.out.up 24 (by decide)
          · have HJ := Lib.hid hJ
            have d19 : vs 19 = .bool true := hJ.ev 19 (by decide) (hd 19 (by kernel_rfl))
            have d24 : vs 24 = (Value.pointer (some ⟨b, 2, none⟩)) := hJ.ev 24 (by decide) (hd 24 (by kernel_rfl))
            obtain ⟨y0, y1, y2, y3, y4, ⟨yb, ys⟩, y6, y7, y8⟩ := HX.out w (below_on hB5 hJ.bl)
            clear hJ hd hcl
            simp only [Par.GivesW, d19, d24]
            go_simp
            all_goals exact HJ.out.up 25 (by decide)
          · have HJ := Lib.hid hJ
            have d19 : vs 19 = .bool true := hJ.ev 19 (by decide) (hd 19 (by kernel_rfl))
            have d25 : vs 25 = .slice (some ⟨gn, 0, none⟩) 1 cn := hJ.ev 25 (by decide) (hd 25 (by kernel_rfl))
            obtain ⟨y0, y1, y2, y3, y4, ⟨yb, ys⟩, y6, y7, y8⟩ := HX.out w (below_on hB5 hJ.bl)
            clear hJ hd hcl
            simp only [Par.GivesW, d19, d25]
            go_simp
            all_goals exact HJ.out.up 26 (by decide)
          · have HJ := Lib.hid hJ
            have d19 : vs 19 = .bool true := hJ.ev 19 (by decide) (hd 19 (by kernel_rfl))
            have d26 : vs 26 = (Value.pointer (some ⟨gn, 0, none⟩)) := hJ.ev 26 (by decide) (hd 26 (by kernel_rfl))
            obtain ⟨y0, y1, y2, y3, y4, ⟨yb, ys⟩, y6, y7, y8⟩ := HX.out w (below_on hB5 hJ.bl)
            clear hJ hd hcl
            simp only [Par.GivesW, d19, d26]
            go_simp
            all_goals exact HJ.out.up 27 (by decide)
          · have HJ := Lib.hid hJ
            have d19 : vs 19 = .bool true := hJ.ev 19 (by decide) (hd 19 (by kernel_rfl))
            have d21 : vs 21 = (Value.int .i64 ((next : Int))) := hJ.ev 21 (by decide) (hd 21 (by kernel_rfl))
            have d27 : vs 27 = (Value.int .i64 ((next : Int))) := hJ.ev 27 (by decide) (hd 27 (by kernel_rfl))
            obtain ⟨y0, y1, y2, y3, y4, ⟨yb, ys⟩, y6, y7, y8⟩ := HX.out w (below_on hB5 hJ.bl)
            clear hJ hd hcl
            simp only [Par.GivesW, d19, d21, d27]
            go_simp
            all_goals exact HJ.out.up 28 (by decide)
          · have HJ := Lib.hid hJ
            have d19 : vs 19 = .bool true := hJ.ev 19 (by decide) (hd 19 (by kernel_rfl))
            have d28 : vs 28 = .bool true := hJ.ev 28 (by decide) (hd 28 (by kernel_rfl))
            obtain ⟨y0, y1, y2, y3, y4, ⟨yb, ys⟩, y6, y7, y8⟩ := HX.out w (below_on hB5 hJ.bl)
            clear hJ hd hcl
            simp only [Par.GivesW, d19, d28]
            go_simp
            all_goals exact HJ.out.up 29 (by decide)
          · have HJ := Lib.hid hJ
            have d29 : vs 29 = .bool true := hJ.ev 29 (by decide) (hd 29 (by kernel_rfl))
            obtain ⟨y0, y1, y2, y3, y4, ⟨yb, ys⟩, y6, y7, y8⟩ := HX.out w (below_on hB5 hJ.bl)
            clear hJ hd hcl
            simp only [Par.GivesW, d29]
            go_simp
            all_goals exact HJ.out.up 30 (by decide)
          · have HJ := Lib.hid hJ
            have d30 : vs 30 = .bool true := hJ.ev 30 (by decide) (hd 30 (by kernel_rfl))
            obtain ⟨y0, y1, y2, y3, y4, ⟨yb, ys⟩, y6, y7, y8⟩ := HX.out w (below_on hB5 hJ.bl)
            clear hJ hd hcl
            simp only [Par.GivesW, d30]
            go_simp
            all_goals exact HJ.out.up 31 (by decide)
          · have HJ := Lib.hid hJ
            have d30 : vs 30 = .bool true := hJ.ev 30 (by decide) (hd 30 (by kernel_rfl))
            have d31 : vs 31 = (Value.pointer (some ⟨tb, 0, none⟩)) := hJ.ev 31 (by decide) (hd 31 (by kernel_rfl))
            obtain ⟨y0, y1, y2, y3, y4, ⟨yb, ys⟩, y6, y7, y8⟩ := HX.out w (below_on hB5 hJ.bl)
            have hbw := below_on hB5 hJ.bl
            have hc := tb_live (HT.out w hbw)
            clear hJ hd hcl
            simp only [Par.GivesW, d30, d31]
            go_simp
            refine hc.mono ?_
            rintro e y ⟨p9, n9, c9, rfl, hv9, hb9⟩
            exact ⟨_, rfl, HJ.out.s32 hb9 hv9⟩
          · have HJ := Lib.hid hJ
            have d30 : vs 30 = .bool true := hJ.ev 30 (by decide) (hd 30 (by kernel_rfl))
            obtain ⟨y0, y1, y2, y3, y4, ⟨yb, ys⟩, y6, y7, y8⟩ := HX.out w (below_on hB5 hJ.bl)
            clear hJ hd hcl
            simp only [Par.GivesW, d30]
            go_simp
            all_goals exact HJ.out.up 33 (by decide)
          · have HJ := Lib.hid hJ
            have d30 : vs 30 = .bool true := hJ.ev 30 (by decide) (hd 30 (by kernel_rfl))
            have d33 : vs 33 = .slice pi ni ci := hJ.ev 33 (by decide) (hd 33 (by kernel_rfl))
            obtain ⟨y0, y1, y2, y3, y4, ⟨yb, ys⟩, y6, y7, y8⟩ := HX.out w (below_on hB5 hJ.bl)
            have hbw := below_on hB5 hJ.bl
            have hc := HS.out w hJ.bl
            clear hJ hd hcl
            simp only [Par.GivesW, d30, d33]
            go_simp
            refine hc.mono ?_
            rintro e y ⟨p9, n9, c9, rfl, hn9, hr9, hb9⟩
            exact ⟨_, rfl, HJ.out.s34 hb9 hn9 hr9⟩
          · have HJ := Lib.hid hJ
            have d30 : vs 30 = .bool true := hJ.ev 30 (by decide) (hd 30 (by kernel_rfl))
            obtain ⟨y0, y1, y2, y3, y4, ⟨yb, ys⟩, y6, y7, y8⟩ := HX.out w (below_on hB5 hJ.bl)
            have hbw := below_on hB5 hJ.bl
            obtain ⟨p8, n8, c8, d32, hv8⟩ := hJ.f32 (hd 32 (by kernel_rfl))
            obtain ⟨p9, n9, c9, d34, hn9, hr9⟩ := hJ.f34 (hd 34 (by kernel_rfl))
            have hc := same_any _ p9 n9 c9 w hn9 rfl hv8 hr9
            clear hJ hd hcl
            simp only [Par.GivesW, d30, d32, d34]
            go_simp
            refine hc.mono ?_
            rintro e y ⟨rfl, hb9⟩
            exact ⟨_, rfl, (HJ.out.up 35 (by decide)).later hb9⟩
          · have HJ := Lib.hid hJ
            have d30 : vs 30 = .bool true := hJ.ev 30 (by decide) (hd 30 (by kernel_rfl))
            have d35 : vs 35 = .bool true := hJ.ev 35 (by decide) (hd 35 (by kernel_rfl))
            obtain ⟨y0, y1, y2, y3, y4, ⟨yb, ys⟩, y6, y7, y8⟩ := HX.out w (below_on hB5 hJ.bl)
            clear hJ hd hcl
            simp only [Par.GivesW, d30, d35]
            go_simp
            all_goals exact HJ.out.up 36 (by decide)
          · have HJ := Lib.hid hJ
            have d36 : vs 36 = .bool true := hJ.ev 36 (by decide) (hd 36 (by kernel_rfl))
            obtain ⟨y0, y1, y2, y3, y4, ⟨yb, ys⟩, y6, y7, y8⟩ := HX.out w (below_on hB5 hJ.bl)
            clear hJ hd hcl
            simp only [Par.GivesW, d36]
            go_simp
            all_goals exact HJ.out.up 37 (by decide)
          · have HJ := Lib.hid hJ
            have d37 : vs 37 = .bool true := hJ.ev 37 (by decide) (hd 37 (by kernel_rfl))
            obtain ⟨y0, y1, y2, y3, y4, ⟨yb, ys⟩, y6, y7, y8⟩ := HX.out w (below_on hB5 hJ.bl)
            clear hJ hd hcl
            simp only [Par.GivesW, d37]
            go_simp
            all_goals exact HJ.out.up 38 (by decide)
          · have HJ := Lib.hid hJ
            have d37 : vs 37 = .bool true := hJ.ev 37 (by decide) (hd 37 (by kernel_rfl))
            have d38 : vs 38 = (Value.pointer (some ⟨tb, 0, none⟩)) := hJ.ev 38 (by decide) (hd 38 (by kernel_rfl))
            obtain ⟨y0, y1, y2, y3, y4, ⟨yb, ys⟩, y6, y7, y8⟩ := HX.out w (below_on hB5 hJ.bl)
            have hbw := below_on hB5 hJ.bl
            have hc := HF.out w hbw
            clear hJ hd hcl
            simp only [Par.GivesW, d37, d38]
            go_simp
            refine hc.mono ?_
            rintro e y ⟨p1, c1, p2, c2, rfl, hr9, hb9⟩
            exact ⟨_, rfl, HJ.out.s39 hb9 hr9⟩
          · have HJ := Lib.hid hJ
            have d37 : vs 37 = .bool true := hJ.ev 37 (by decide) (hd 37 (by kernel_rfl))
            obtain ⟨y0, y1, y2, y3, y4, ⟨yb, ys⟩, y6, y7, y8⟩ := HX.out w (below_on hB5 hJ.bl)
            clear hJ hd hcl
            simp only [Par.GivesW, d37]
            go_simp
            all_goals exact HJ.out.up 40 (by decide)
          · have HJ := Lib.hid hJ
            have d37 : vs 37 = .bool true := hJ.ev 37 (by decide) (hd 37 (by kernel_rfl))
            have d40 : vs 40 = (Value.pointer (some ⟨b, 0, none⟩)) := hJ.ev 40 (by decide) (hd 40 (by kernel_rfl))
            obtain ⟨y0, y1, y2, y3, y4, ⟨yb, ys⟩, y6, y7, y8⟩ := HX.out w (below_on hB5 hJ.bl)
            clear hJ hd hcl
            simp only [Par.GivesW, d37, d40]
            go_simp
            all_goals exact HJ.out.up 41 (by decide)
          · have HJ := Lib.hid hJ
            have d37 : vs 37 = .bool true := hJ.ev 37 (by decide) (hd 37 (by kernel_rfl))
            have d41 : vs 41 = (Value.pointer (some ⟨b, 0, none⟩)) := hJ.ev 41 (by decide) (hd 41 (by kernel_rfl))
            obtain ⟨y0, y1, y2, y3, y4, ⟨yb, ys⟩, y6, y7, y8⟩ := HX.out w (below_on hB5 hJ.bl)
            clear hJ hd hcl
            simp only [Par.GivesW, d37, d41]
            go_simp
            all_goals exact HJ.out.up 42 (by decide)
          · have HJ := Lib.hid hJ
            have d37 : vs 37 = .bool true := hJ.ev 37 (by decide) (hd 37 (by kernel_rfl))
            have d42 : vs 42 = (Value.pointer (some ⟨b, 0, none⟩)) := hJ.ev 42 (by decide) (hd 42 (by kernel_rfl))
            obtain ⟨y0, y1, y2, y3, y4, ⟨yb, ys⟩, y6, y7, y8⟩ := HX.out w (below_on hB5 hJ.bl)
            clear hJ hd hcl
            simp only [Par.GivesW, d37, d42]
            go_simp
            all_goals exact HJ.out.up 43 (by decide)
          · have HJ := Lib.hid hJ
            have d37 : vs 37 = .bool true := hJ.ev 37 (by decide) (hd 37 (by kernel_rfl))
            have d43 : vs 43 = .slice (some ⟨gs, 0, none⟩) 1 cs := hJ.ev 43 (by decide) (hd 43 (by kernel_rfl))
            obtain ⟨y0, y1, y2, y3, y4, ⟨yb, ys⟩, y6, y7, y8⟩ := HX.out w (below_on hB5 hJ.bl)
            clear hJ hd hcl
            simp only [Par.GivesW, d37, d43]
            go_simp
            all_goals exact HJ.out.up 44 (by decide)
          · have HJ := Lib.hid hJ
            have d37 : vs 37 = .bool true := hJ.ev 37 (by decide) (hd 37 (by kernel_rfl))
            have d44 : vs 44 = (Value.pointer (some ⟨gs, 0, none⟩)) := hJ.ev 44 (by decide) (hd 44 (by kernel_rfl))
            obtain ⟨y0, y1, y2, y3, y4, ⟨yb, ys⟩, y6, y7, y8⟩ := HX.out w (below_on hB5 hJ.bl)
            clear hJ hd hcl
            simp only [Par.GivesW, d37, d44]
            go_simp
            all_goals exact HJ.out.up 45 (by decide)
          · have HJ := Lib.hid hJ
            have d37 : vs 37 = .bool true := hJ.ev 37 (by decide) (hd 37 (by kernel_rfl))
            obtain ⟨y0, y1, y2, y3, y4, ⟨yb, ys⟩, y6, y7, y8⟩ := HX.out w (below_on hB5 hJ.bl)
            have hbw := below_on hB5 hJ.bl
            have d45 : vs 45 = .agg #[.string nm, .slice pc nc kc, .string key, .slice pd nd kd] := hJ.ev 45 (by decide) (hd 45 (by kernel_rfl))
            obtain ⟨p1, c1, p2, c2, d39, hr9⟩ := hJ.f39 (hd 39 (by kernel_rfl))
            have hc := HE.out w _ _ _ _ hbw hr9
            clear hJ hd hcl
            simp only [Par.GivesW, d37, d39, d45]
            go_simp
            refine hc.mono ?_
            rintro e y ⟨rfl, hb9⟩
            exact ⟨_, rfl, (HJ.out.up 46 (by decide)).later hb9⟩
          · have HJ := Lib.hid hJ
            have d37 : vs 37 = .bool true := hJ.ev 37 (by decide) (hd 37 (by kernel_rfl))
            have d46 : vs 46 = .bool true := hJ.ev 46 (by decide) (hd 46 (by kernel_rfl))
            obtain ⟨y0, y1, y2, y3, y4, ⟨yb, ys⟩, y6, y7, y8⟩ := HX.out w (below_on hB5 hJ.bl)
            clear hJ hd hcl
            simp only [Par.GivesW, d37, d46]
            go_simp
            all_goals exact HJ.out.up 47 (by decide)
        case hTAf =>
          intro l vs w7 hl hJ
          simp only [List.drop_succ_cons, List.drop_zero]
          have d47 : vs 47 = .bool true := hJ.ev 47 (by decide) (hl 47 (by decide))
          have H7 := Lib.hid (below_on hB5 hJ.bl)
          simp only [d47]
          generalize vs 0 = s0
          generalize vs 1 = s1
          generalize vs 2 = s2
          generalize vs 3 = s3
          generalize vs 4 = s4
          generalize vs 5 = s5
          generalize vs 6 = s6
          generalize vs 7 = s7
          generalize vs 8 = s8
          generalize vs 9 = s9
          generalize vs 10 = s10
          generalize vs 11 = s11
          generalize vs 12 = s12
          generalize vs 13 = s13
          generalize vs 14 = s14
          generalize vs 15 = s15
          generalize vs 16 = s16
          generalize vs 17 = s17
          generalize vs 18 = s18
          generalize vs 19 = s19
          generalize vs 20 = s20
          generalize vs 21 = s21
          generalize vs 22 = s22
          generalize vs 23 = s23
          generalize vs 24 = s24
          generalize vs 25 = s25
          generalize vs 26 = s26
          generalize vs 27 = s27
          generalize vs 28 = s28
          generalize vs 29 = s29
          generalize vs 30 = s30
          generalize vs 31 = s31
          generalize vs 32 = s32
          generalize vs 33 = s33
          generalize vs 34 = s34
          generalize vs 35 = s35
          generalize vs 36 = s36
          generalize vs 37 = s37
          generalize vs 38 = s38
          generalize vs 39 = s39
          generalize vs 40 = s40
          generalize vs 41 = s41
          generalize vs 42 = s42
          generalize vs 43 = s43
          generalize vs 44 = s44
          generalize vs 45 = s45
          generalize vs 46 = s46
          clear hJ hl d47
          go_wp2_with fail
          go_ret
          exact ⟨rfl, H7.out⟩
end
end Go.Proofs.YtffpmmphpdkkbaaGreat
