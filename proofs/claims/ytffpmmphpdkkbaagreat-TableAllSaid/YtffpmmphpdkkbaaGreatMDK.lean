/- The reference's Insert where it is taken. The reference's Delete of a row that is there. -/
import Derived.Test.YtffpmmphpdkkbaaGreatMDY
import Derived.Test.YtffpmmphpdkkbaaGreatMTV
import Derived.Test.YtffpmmphpdkkbaaGreatMBQ2
namespace Go.Proofs.YtffpmmphpdkkbaaGreat
open Go Go.RowKit Go.Proofs Co Co.S
namespace Par
/-- An append among operations of any order. -/
theorem gives_append {P : Program} {ops : Array Oper} {A : Act} {R : Value → World → Prop} {o : Oper} {w w' : World} {vs vx v' : Value} (hgd : o.guard = none) (s x : Operand) (t u : TypeId)
    (ho : o.op = .call { callee := .builtin .append, args := #[s, x], argTypes := #[t, u] }) (hs : A.eval s = vs) (hx : A.eval x = vx)
    (hr : (Builtin.append_ #[t, u] o.type #[vs, vx]).run P w = .ok v' w') (h : R v' w') : GivesW P ops A R o w := by
  have hw : Region.wanted o (yielded ops A.tmps) = true := by simp [Region.wanted, hgd]
  unfold GivesW
  rw [if_pos hw]
  unfold execOp
  simp only [ho, resolve, invoke, builtin, Sem.run_bind, Sem.run_pure, Result.andThen_ok, List.map_toArray, List.map_cons, List.map_nil, hs, hx, hr]
  exact h
end Par
/-- What holds where a row is appended. -/
structure IJ (W0 : World) (E : Nat → Value) (rv : Value) (n : Nat) (xs : List Value) (id : Int) (vals : List T3) (l : Nat → Bool) (vs : Nat → Value) (w : World) : Prop where
  gb : W0.grownBy w rv.ownBlock
  f0 : l 17 = false → Below W0.heap.size W0 w
  ev : ∀ j, j < 14 ∨ j = 18 → l j = true → vs j = E j
  f14 : l 14 = true → ∃ g c, vs 14 = .slice (some ⟨g, 0, none⟩) vals.length c ∧ HRow w 0 53 3 (.slice (some ⟨g, 0, none⟩) vals.length c) vals.length (cells3 vals) ∧ W0.heap.size ≤ g
  f15 : l 15 = true → vs 15 = .agg #[.int .i64 id, vs 14]
  f16 : l 16 = true → l 17 = false → ∃ y, w = y.alloc (.cells #[.int .i64 id, vs 14] 90) ∧ vs 16 = .slice (some ⟨y.heap.size, 0, none⟩) 1 1 ∧ Below W0.heap.size W0 y ∧ ∀ q, (vs 14).ownBlock = some q → q < y.heap.size
  f17 : l 17 = true → ∃ g cap, vs 17 = .slice (some ⟨g, 0, none⟩) (n + 1) cap ∧ HRow w 0 90 2 (.slice (some ⟨g, 0, none⟩) (n + 1) cap) (n + 1) (xs ++ [.int .i64 id, vs 14]) ∧ (rv.ownBlock = some g ∨ W0.heap.size ≤ g) ∧ ∀ q, (vs 14).ownBlock = some q → q ≠ g
theorem grownB {W0 w : World} {o : Option Nat} (h : Below W0.heap.size W0 w) : W0.grownBy w o := ⟨h.os, h.tape, h.output, h.size, fun q hq _ => h.block q hq⟩
section
open Par
variable {W0 w w' : World} {E : Nat → Value} {rv : Value} {n : Nat} {xs : List Value} {id : Int} {vals : List T3} {l : Nat → Bool} {vs : Nat → Value}
theorem IJ.up (h : IJ W0 E rv n xs id vals l vs w) (i : Nat) (hi : i < 14 ∨ i = 18) : IJ W0 E rv n xs id vals (upB l i) (upV vs i (E i)) w := by
  have k : ∀ j, j = 14 ∨ j = 15 ∨ j = 16 ∨ j = 17 → upB l i j = l j ∧ upV vs i (E i) j = vs j := fun j hj => ⟨upB_ne (by omega), upV_ne (by omega)⟩
  refine ⟨h.gb, fun hl => h.f0 ((k 17 (by simp)).1 ▸ hl), fun j hj hl => ?_, fun hl => ?_, fun hl => ?_, fun h1 h2 => ?_, fun hl => ?_⟩
  · by_cases e : j = i
    · subst e; rw [upV_eq]
    · rw [upV_ne e]; rw [upB_ne e] at hl; exact h.ev j hj hl
  · rw [(k 14 (by simp)).1] at hl
    rw [(k 14 (by simp)).2]; exact h.f14 hl
  · rw [(k 15 (by simp)).1] at hl
    rw [(k 15 (by simp)).2, (k 14 (by simp)).2]; exact h.f15 hl
  · rw [(k 16 (by simp)).1] at h1
    rw [(k 17 (by simp)).1] at h2
    rw [(k 16 (by simp)).2, (k 14 (by simp)).2]; exact h.f16 h1 h2
  · rw [(k 17 (by simp)).1] at hl
    rw [(k 17 (by simp)).2, (k 14 (by simp)).2]; exact h.f17 hl
theorem IJ.s14 (h : IJ W0 E rv n xs id vals l vs w) (h15 : l 15 = false) (h16 : l 16 = false) (h17 : l 17 = false) {g c : Nat} (hr : HRow w' w.heap.size 53 3 (.slice (some ⟨g, 0, none⟩) vals.length c) vals.length (cells3 vals)) (hb : Below w.heap.size w w') :
    IJ W0 E rv n xs id vals (upB l 14) (upV vs 14 (.slice (some ⟨g, 0, none⟩) vals.length c)) w' := by
  have hb2 := below_on (h.f0 h17) hb
  refine ⟨grownB hb2, fun _ => hb2, fun j hj hl => ?_, fun _ => ⟨g, c, upV_eq, HRow.mono hr (Nat.zero_le _), Nat.le_trans (h.f0 h17).size (HRow.lt hr g rfl).1⟩, fun hl => ?_, fun hl => ?_, fun hl => ?_⟩
  · rw [upV_ne (by omega)]; rw [upB_ne (by omega)] at hl; exact h.ev j hj hl
  · rw [upB_ne (by decide), h15] at hl; cases hl
  · rw [upB_ne (by decide), h16] at hl; cases hl
  · rw [upB_ne (by decide), h17] at hl; cases hl
theorem IJ.s15 (h : IJ W0 E rv n xs id vals l vs w) (h16 : l 16 = false) (h17 : l 17 = false) : IJ W0 E rv n xs id vals (upB l 15) (upV vs 15 (.agg #[.int .i64 id, vs 14])) w := by
  refine ⟨h.gb, fun _ => h.f0 h17, fun j hj hl => ?_, fun hl => ?_, fun _ => ?_, fun hl => ?_, fun hl => ?_⟩
  · rw [upV_ne (by omega)]; rw [upB_ne (by omega)] at hl; exact h.ev j hj hl
  · rw [upB_ne (by decide)] at hl
    rw [upV_ne (by decide)]; exact h.f14 hl
  · rw [upV_eq, upV_ne (by decide)]
  · rw [upB_ne (by decide), h16] at hl; cases hl
  · rw [upB_ne (by decide), h17] at hl; cases hl
theorem IJ.s16 (h : IJ W0 E rv n xs id vals l vs w) (h14 : l 14 = true) (h17 : l 17 = false) : IJ W0 E rv n xs id vals (upB l 16) (upV vs 16 (.slice (some ⟨w.heap.size, 0, none⟩) 1 1)) (w.alloc (.cells #[.int .i64 id, vs 14] 90)) := by
  have hb2 := below_on (h.f0 h17) (below_alloc w (.cells #[.int .i64 id, vs 14] 90))
  obtain ⟨g, c, e, h1, h2⟩ := h.f14 h14
  refine ⟨grownB hb2, fun _ => hb2, fun j hj hl => ?_, fun hl => ?_, fun hl => ?_, fun _ _ => ⟨w, ?_, upV_eq, h.f0 h17, fun q hq => ?_⟩, fun hl => ?_⟩
  · rw [upV_ne (by omega)]; rw [upB_ne (by omega)] at hl; exact h.ev j hj hl
  · rw [upV_ne (by decide)]; exact ⟨g, c, e, h1.later (below_alloc _ _), h2⟩
  · rw [upB_ne (by decide)] at hl
    rw [upV_ne (by decide), upV_ne (by decide)]; exact h.f15 hl
  · rw [upV_ne (by decide)]
  · rw [upV_ne (by decide), e] at hq
    exact (HRow.lt h1 q hq).2
  · rw [upB_ne (by decide), h17] at hl; cases hl
theorem IJ.s17 (h : IJ W0 E rv n xs id vals l vs w) (h14 : l 14 = true) (hW : HRow W0 0 90 2 rv n xs) {y : World} {v : Value} (h16 : w = y.alloc (.cells #[.int .i64 id, vs 14] 90)) (hy : Below W0.heap.size W0 y) (h14y : ∀ q, (vs 14).ownBlock = some q → q < y.heap.size) {g cap : Nat}
    (hv : v = .slice (some ⟨g, 0, none⟩) (n + 1) cap) (hr : HRow w' 0 90 2 (.slice (some ⟨g, 0, none⟩) (n + 1) cap) (n + 1) (xs ++ [.int .i64 id, vs 14])) (hg : y.grownBy w' rv.ownBlock) (ho : rv.ownBlock = some g ∨ y.heap.size ≤ g) :
    IJ W0 E rv n xs id vals (upB l 17) (upV vs 17 v) w' := by
  obtain ⟨g14, c, e, h1, h2⟩ := h.f14 h14
  have hrl : ∀ q, rv.ownBlock = some q → q < W0.heap.size := fun q hq => (HRow.lt hW q hq).2
  have hlt : g14 < y.heap.size := h14y g14 (by rw [e]; rfl)
  have hgb : W0.grownBy w' rv.ownBlock := ⟨hg.os.trans hy.os, hg.tape.trans hy.tape, hg.output.trans hy.output, Nat.le_trans hy.size hg.size, fun q hq hn => (hg.block q (Nat.lt_of_lt_of_le hq hy.size) hn).trans (hy.block q hq)⟩
  refine ⟨hgb, fun hl => ?_, fun j hj hl => ?_, fun hl => ?_, fun hl => ?_, fun _ hl => ?_, fun _ => ⟨g, cap, upV_eq.trans hv, ?_, ho.imp (fun h => h) (fun h => Nat.le_trans hy.size h), fun q hq e2 => ?_⟩⟩
  · rw [upB_eq] at hl; cases hl
  · rw [upV_ne (by omega)]; rw [upB_ne (by omega)] at hl; exact h.ev j hj hl
  · rw [upV_ne (by decide)]
    refine ⟨g14, c, e, h1.of (fun k hk => ?_), h2⟩
    cases hk
    rw [hg.block g14 hlt (fun e => by have := hrl g14 e.symm; omega), h16]
    exact (below_alloc y _).block g14 hlt |>.symm
  · rw [upB_ne (by decide)] at hl
    rw [upV_ne (by decide), upV_ne (by decide)]; exact h.f15 hl
  · rw [upB_eq] at hl; cases hl
  · rw [upV_ne (by decide)]; exact hr
  · rw [upV_ne (by decide), e] at hq
    cases hq
    subst e2
    rcases ho with h3 | h3
    · have := hrl g14 h3; omega
    · exact absurd hlt (Nat.not_lt.2 h3)
end
section
variable {W : World} {b next : Nat} {t : T} {A : List R1} {i : DI} {lab : Nat → Nat}
set_option maxRecDepth 100000 in
set_option maxHeartbeats 8000000 in
theorem dins_yes {S : Nat → Prop} {vv : Value} {vals : List T3} (h : DbM W b t next A i lab) (hv : InV S W vv vals) (hS : ∀ q, S q → lab q = 0) (hs : ∀ x ∈ vals, x.2.2.size ≤ maxLen) (hc : t.cols.length ≤ 1000) (h0 : 0 < t.cols.length) (hl : vals.length ≤ 1000000) (hAl : A.length ≤ 100000) (hnx : next ≤ 100000)
    (hid : ∀ a ∈ A, a.1 < (next : Int)) (hyes : insE t vals = 0) :
    Calls Tryz.prog 15 #[(Value.pointer (some ⟨b, 0, none⟩)), .int .i64 0, vv] W fun e w' => e = .returned (.tuple #[.int .i64 (next : Int), .int .i64 0]) ∧ ∃ i' lab', DbM w' b t (next + 1) (A ++ [((next : Int), vals)]) i' lab' ∧ Ext W lab lab' ∧ Tn (fun q => lab q ≠ 0) W w' := by
  obtain ⟨gs, cs, pc, kc, hF⟩ := h.formR
  obtain ⟨p, cap, rfl, _, _⟩ := hv.slice
  obtain ⟨n, hn⟩ : ∃ n, vals.length = n := ⟨_, rfl⟩
  obtain ⟨nc, hnc⟩ : ∃ n, t.cols.length = n := ⟨_, rfl⟩
  have hni : (n : Int) ≤ 1000000 := by omega
  have hnci : (nc : Int) ≤ 1000 := by omega
  obtain ⟨d1, d2, d3, d4, _⟩ := hF W (Below.refl _ _)
  rw [hnc] at d2
  have hne : vals.length = t.cols.length := by
    by_cases e : vals.length = t.cols.length
    · exact e
    · unfold insE at hyes; rw [if_pos e] at hyes; cases hyes
  have hok : okVals t vals = true := by
    unfold insE at hyes
    rw [if_neg (by omega)] at hyes
    cases h1 : okVals t vals with
    | true => rfl
    | false => rw [h1] at hyes; cases hyes
  rw [hn]
  obtain rfl : n = nc := by omega
  have HF := Lib.hid hF
  have HV := Lib.hid (And.intro hv hS)
  have HSz := Lib.hid hs
  have HN := Lib.hid (And.intro hn (And.intro hnc hok))
  have HD := Lib.hid (And.intro h (And.intro hc (And.intro h0 (And.intro hAl (And.intro hnx hid)))))
  clear h hF hv hs hyes hok hn hc hl hne hS h0 hAl hid
  go_enter Tryz.func15, Tryz.ntmps15
  go_wp2_with fail
  go_loopg [8] (n + 1) (fun gh jv w => ∃ (j : Nat), jv = .int .i64 (j : Int) ∧ j ≤ n ∧ n + 1 ≤ j + gh ∧ Below W.heap.size W w)
  case atStart => exact ⟨0, rfl, Nat.zero_le _, by omega, Below.refl _ _⟩
  case round =>
    obtain ⟨j, rfl, hj, hg, hB⟩ := hrel
    by_cases hlt : j < n
    · have hji : (j : Int) < (n : Int) := by omega
      have hjc : j < t.cols.length := by rw [HN.out.2.1]; exact hlt
      have hjv : j < vals.length := by rw [HN.out.1]; exact hlt
      obtain ⟨b1, o1, rfl, _, y⟩ := (HV.out.1.later hB).val hjv
      obtain ⟨e1, e2, e3, e4, e5⟩ := HF.out wr hB
      obtain ⟨b2, o2, rfl, _, z⟩ := RdC.col e5 hjc
      obtain ⟨u, hu⟩ : ∃ u, vals[j] = u := ⟨_, rfl⟩
      obtain ⟨c, hcc⟩ : ∃ c, t.cols[j] = c := ⟨_, rfl⟩
      have hsz := HSz.out _ (List.getElem_mem hjv)
      rw [hu] at y hsz
      rw [hcc] at z
      rw [HN.out.2.1] at e2
      have hcok : inC c.kd u = true := by
        have h1 := cOk_at hjc hjv
        rw [hu, hcc] at h1
        rw [← h1]
        have h2 := HN.out.2.2
        unfold okVals at h2
        exact List.all_eq_true.1 h2 j (List.mem_range.2 hjc)
      have tr0 : ∀ w, Below wr.heap.size wr w → ∀ {a : Addr} {v : Value}, wr.cell? a = some v → w.cell? a = some v := fun w hb {a v} h => (World.cell?_of_block (w := wr) (hb.block _ (World.block_lt_of_cell? _ _ h))).trans h
      have HC : Hid (∀ w, Below wr.heap.size wr w → (w.cell? ⟨b1, o1 + j * 3, none⟩ = some (.int .i64 u.1) ∧ w.cell? ⟨b1, o1 + j * 3 + 1, none⟩ = some (.int .i64 u.2.1) ∧ w.cell? ⟨b1, o1 + j * 3 + 2, none⟩ = some (.string u.2.2)) ∧
          (w.cell? ⟨b, 0, none⟩ = some (.slice (some ⟨gs, 0, none⟩) 1 cs) ∧ w.cell? ⟨gs, 1, none⟩ = some (.slice (some ⟨b2, o2, none⟩) n kc)) ∧ (b < w.heap.size ∧ gs < w.heap.size) ∧
          (w.cell? ⟨b2, o2 + j * 4, none⟩ = some (.string c.nm) ∧ w.cell? ⟨b2, o2 + j * 4 + 1, none⟩ = some (.int .i64 c.kd) ∧ w.cell? ⟨b2, o2 + j * 4 + 2, none⟩ = some (.bool c.mu) ∧ w.cell? ⟨b2, o2 + j * 4 + 3, none⟩ = some (.string c.tgt))) := Lib.hid (fun w hb =>
        ⟨⟨tr0 w hb y.1, tr0 w hb y.2.1, tr0 w hb y.2.2⟩, ⟨tr0 w hb e1, tr0 w hb e2⟩, ⟨Nat.lt_of_lt_of_le e3 hb.size, Nat.lt_of_lt_of_le e4 hb.size⟩, ⟨tr0 w hb z.1, tr0 w hb z.2.1, tr0 w hb z.2.2.1, tr0 w hb z.2.2.2⟩⟩)
      have htyp := fun w => typed_any u.1 u.2.1 u.2.2 c w hsz
      rw [show (u.1, u.2.1, u.2.2) = u from rfl, hcok] at htyp
      have HB := Lib.hid hB
      clear hB y z e1 e2 e3 e4 e5 hu hcc hsz tr0 hcok d1 d2 d3 d4
      go_upto_region 6 with fail
      refine Par.wp_region_par 15 [.slice (some ⟨b1, o1, none⟩) n cap, (Value.int .i64 ((j : Int))), (Value.pointer (some ⟨b1, o1 + j * 3, none⟩)), (Value.agg #[Value.int .i64 (u.1), Value.int .i64 (u.2.1), Value.string (u.2.2)]), (Value.pointer (some ⟨b, 0, none⟩)), (Value.pointer (some ⟨b, 0, none⟩)), (Value.pointer (some ⟨b, 0, none⟩)), .slice (some ⟨gs, 0, none⟩) 1 cs, (Value.int .i64 (0)), (Value.pointer (some ⟨gs, 0, none⟩)), (Value.pointer (some ⟨gs, 1, none⟩)), .slice (some ⟨b2, o2, none⟩) n kc, (Value.int .i64 ((j : Int))), (Value.pointer (some ⟨b2, o2 + j * 4, none⟩)), .agg #[.string c.nm, .int .i64 c.kd, .bool c.mu, .string c.tgt]] (fun w => Below wr.heap.size wr w) ?A1 ?hm1 ?hB1 ?hA1 ((below_drew wr)) ?hop1 ?hT1
      case hm1 => kernel_rfl
      case hB1 => kernel_rfl
      case hA1 =>
        simp only [Par.putA, Par.dstAt, Act.put, List.getElem?_toArray, List.getElem?_cons_zero, List.getElem?_cons_succ, Option.bind_some, List.setIfInBounds_toArray, List.set_cons_zero, List.set_cons_succ, List.getD_cons_zero, List.getD_cons_succ]
        rfl
      case hop1 =>
        simp only [List.take_succ_cons, List.take_zero, Par.GiveAll, and_true]
        refine ⟨fun w' hR => ?_, fun w' hR => ?_, fun w' hR => ?_, fun w' hR => ?_, fun w' hR => ?_, fun w' hR => ?_, fun w' hR => ?_, fun w' hR => ?_, fun w' hR => ?_, fun w' hR => ?_, fun w' hR => ?_, fun w' hR => ?_, fun w' hR => ?_, fun w' hR => ?_, fun w' hR => ?_⟩
        · have HR := Lib.hid hR
          clear hR
          simp only [Par.Gives]
          go_simp
          all_goals exact HR.out
        · have HR := Lib.hid hR
          clear hR
          simp only [Par.Gives]
          go_simp
          all_goals exact HR.out
        · have HR := Lib.hid hR
          clear hR
          simp only [Par.Gives]
          go_simp
          all_goals exact HR.out
        · have HR := Lib.hid hR
          have x0 := (HC.out w' hR).1.1
          have x1 := (HC.out w' hR).1.2.1
          have x2 := (HC.out w' hR).1.2.2
          clear hR
          simp only [Par.Gives]
          go_simp
          all_goals exact HR.out
        · have HR := Lib.hid hR
          clear hR
          simp only [Par.Gives]
          go_simp
          all_goals exact HR.out
        · have HR := Lib.hid hR
          have zl := (HC.out w' hR).2.2.1.1
          clear hR
          simp only [Par.Gives]
          go_simp
          all_goals exact HR.out
        · have HR := Lib.hid hR
          have zl := (HC.out w' hR).2.2.1.1
          clear hR
          simp only [Par.Gives]
          go_simp
          all_goals exact HR.out
        · have HR := Lib.hid hR
          have x0 := (HC.out w' hR).2.1.1
          clear hR
          simp only [Par.Gives]
          go_simp
          all_goals exact HR.out
        · have HR := Lib.hid hR
          clear hR
          simp only [Par.Gives]
          go_simp
          all_goals exact HR.out
        · have HR := Lib.hid hR
          clear hR
          simp only [Par.Gives]
          go_simp
          all_goals exact HR.out
        · have HR := Lib.hid hR
          have zl := (HC.out w' hR).2.2.1.2
          clear hR
          simp only [Par.Gives]
          go_simp
          all_goals exact HR.out
        · have HR := Lib.hid hR
          have x0 := (HC.out w' hR).2.1.2
          clear hR
          simp only [Par.Gives]
          go_simp
          all_goals exact HR.out
        · have HR := Lib.hid hR
          clear hR
          simp only [Par.Gives]
          go_simp
          all_goals exact HR.out
        · have HR := Lib.hid hR
          clear hR
          simp only [Par.Gives]
          go_simp
          all_goals exact HR.out
        · have HR := Lib.hid hR
          have x0 := (HC.out w' hR).2.2.2.1
          have x1 := (HC.out w' hR).2.2.2.2.1
          have x2 := (HC.out w' hR).2.2.2.2.2.1
          have x3 := (HC.out w' hR).2.2.2.2.2.2
          clear hR
          simp only [Par.Gives]
          go_simp
          all_goals exact HR.out
      case hT1 =>
        intro w' hR
        simp only [List.drop_succ_cons, List.drop_zero]
        have HR := Lib.hid hR
        have htyp := htyp w'
        clear hR
        go_wp2_with (go_at_call 41; (with_reducible refine htyp.mono ?_); rintro e w4 ⟨rfl, hb4⟩; have H4 := Lib.hid (below_on HB.out (HR.out.trans (hb4.mono HR.out.size))); clear htyp hb4)
        go_roundg (n - j)
        case measure => omega
        case rel => exact ⟨j + 1, rfl, by omega, by omega, H4.out⟩
    · obtain rfl : j = n := by omega
      obtain ⟨hD, hc, h0, hAl, hnx2, hid⟩ := HD.out
      have hD := hD.later hB
      obtain ⟨gn, cn, n1, n2, n3, n4, n5⟩ := hD.nextC
      obtain ⟨hD5, ht5⟩ := hD.setnext n1
      have n5 := n5 0
      have xl := lt_of_heap hD.box
      have hv5 := (HV.out.1.later hB).tn ht5 (fun q hq => fun h => h (HV.out.2 q hq))
      have hz5 := ht5.size
      have HB := Lib.hid hB
      clear hD n1 d1 d2 d3 d4 hB
      go_upto_region 10 with fail
      obtain ⟨w5, hw5⟩ : ∃ w5, wr.setCell ⟨gn, 0, none⟩ (.int .i64 ((next : Int) + 1)) = w5 := ⟨_, rfl⟩
      rw [hw5] at hD5 ht5 hv5 hz5
      rw [hw5]
      clear hw5 n2 n3 n4 n5 xl
      obtain ⟨go, co, o1, o2, o3, o4⟩ := hD5.outerC
      have xl := lt_of_heap hD5.box
      have hrw := hD5.rows
      have hrl : ∀ q, i.rv.ownBlock = some q → lab q = 3 := hD5.l3
      have hlo : lab go = 2 := hD5.l2 go (by rw [o1]; rfl)
      have hlb := hD5.l1
      have HX : Hid (∀ w, w5.grownBy w i.rv.ownBlock → w.cell? ⟨go, 0, none⟩ = some i.rv ∧ w.cell? ⟨b, 1, none⟩ = some (.slice (some ⟨go, 0, none⟩) 1 co) ∧ b < w.heap.size ∧ go < w.heap.size) := Lib.hid (fun w hg =>
        ⟨(World.cell?_of_block (w := w5) (hg.block go o2 (fun e => by have := hrl go e.symm; omega))).trans o3, (World.cell?_of_block (w := w5) (hg.block b xl (fun e => by have := hrl b e.symm; omega))).trans o4, Nat.lt_of_lt_of_le xl hg.size, Nat.lt_of_lt_of_le o2 hg.size⟩)
      have HV5 := Lib.hid hv5
      have HD5 := Lib.hid (And.intro hD5 (And.intro ht5 (And.intro hz5 (And.intro hrw o1))))
      clear hD5 ht5 hv5 hz5 o1 o2 o3 o4 hrw hrl hlo hlb xl
      refine Par.wp_region_par4 19 (IJ w5 (fun idx => [(Value.pointer (some ⟨b, 0, none⟩)), (Value.pointer (some ⟨b, 0, none⟩)), (Value.pointer (some ⟨b, 1, none⟩)), .slice (some ⟨go, 0, none⟩) 1 co, (Value.int .i64 (0)), (Value.pointer (some ⟨b, 0, none⟩)), (Value.pointer (some ⟨b, 0, none⟩)), (Value.pointer (some ⟨b, 1, none⟩)), .slice (some ⟨go, 0, none⟩) 1 co, (Value.int .i64 (0)), (Value.pointer (some ⟨go, 0, none⟩)), i.rv, (Value.int .i64 ((next : Int))), .slice p j cap, undef, undef, undef, undef, (Value.pointer (some ⟨go, 0, none⟩))].getD idx undef) i.rv A.length (cellsR A i.vs) (next : Int) vals) ?AA ?hmA ?hBA ?hAA ?hJA ?hopA ?hTA
      case hmA => kernel_rfl
      case hBA => kernel_rfl
      case hAA =>
        intro vs
        simp only [Par.putA, Par.dstAt, Act.put, List.getElem?_toArray, List.getElem?_cons_zero, List.getElem?_cons_succ, Option.bind_some, List.setIfInBounds_toArray, List.set_cons_zero, List.set_cons_succ]
        rfl
      case hJA =>
        intro vs
        have hd := below_drew w5
        exact ⟨grownB hd, fun _ => hd, fun _ _ h => (by cases h), fun h => (by cases h), fun h => (by cases h), fun h => (by cases h), fun h => (by cases h)⟩
      case hopA =>
        simp only [List.take_succ_cons, List.take_zero, Par.GiveAllK, and_true]
        refine ⟨fun l vs w hJ hl hd hcl => ?_, fun l vs w hJ hl hd hcl => ?_, fun l vs w hJ hl hd hcl => ?_, fun l vs w hJ hl hd hcl => ?_, fun l vs w hJ hl hd hcl => ?_, fun l vs w hJ hl hd hcl => ?_, fun l vs w hJ hl hd hcl => ?_, fun l vs w hJ hl hd hcl => ?_, fun l vs w hJ hl hd hcl => ?_, fun l vs w hJ hl hd hcl => ?_, fun l vs w hJ hl hd hcl => ?_, fun l vs w hJ hl hd hcl => ?_, fun l vs w hJ hl hd hcl => ?_, fun l vs w hJ hl hd hcl => ?_, fun l vs w hJ hl hd hcl => ?_, fun l vs w hJ hl hd hcl => ?_, fun l vs w hJ hl hd hcl => ?_, fun l vs w hJ hl hd hcl => ?_, fun l vs w hJ hl hd hcl => ?_⟩
        · have HJ := Lib.hid hJ
          obtain ⟨y1, y2, y3, y4⟩ := HX.out w hJ.gb
          clear hJ hd hcl
          simp only [Par.GivesW]
          go_simp
          all_goals exact HJ.out.up 0 (by decide)
        · have HJ := Lib.hid hJ
          obtain ⟨y1, y2, y3, y4⟩ := HX.out w hJ.gb
          have d0 : vs 0 = (Value.pointer (some ⟨b, 0, none⟩)) := hJ.ev 0 (by decide) (hd 0 (by kernel_rfl))
          clear hJ hd hcl
          simp only [Par.GivesW, d0]
          go_simp
          all_goals exact HJ.out.up 1 (by decide)
        · have HJ := Lib.hid hJ
          obtain ⟨y1, y2, y3, y4⟩ := HX.out w hJ.gb
          have d1 : vs 1 = (Value.pointer (some ⟨b, 0, none⟩)) := hJ.ev 1 (by decide) (hd 1 (by kernel_rfl))
          clear hJ hd hcl
          simp only [Par.GivesW, d1]
          go_simp
          all_goals exact HJ.out.up 2 (by decide)
        · have HJ := Lib.hid hJ
          obtain ⟨y1, y2, y3, y4⟩ := HX.out w hJ.gb
          have d2 : vs 2 = (Value.pointer (some ⟨b, 1, none⟩)) := hJ.ev 2 (by decide) (hd 2 (by kernel_rfl))
          clear hJ hd hcl
          simp only [Par.GivesW, d2]
          go_simp
          all_goals exact HJ.out.up 3 (by decide)
        · have HJ := Lib.hid hJ
          obtain ⟨y1, y2, y3, y4⟩ := HX.out w hJ.gb
          clear hJ hd hcl
          simp only [Par.GivesW]
          go_simp
          all_goals exact HJ.out.up 4 (by decide)
        · have HJ := Lib.hid hJ
          obtain ⟨y1, y2, y3, y4⟩ := HX.out w hJ.gb
          clear hJ hd hcl
          simp only [Par.GivesW]
          go_simp
          all_goals exact HJ.out.up 5 (by decide)
        · have HJ := Lib.hid hJ
          obtain ⟨y1, y2, y3, y4⟩ := HX.out w hJ.gb
          have d5 : vs 5 = (Value.pointer (some ⟨b, 0, none⟩)) := hJ.ev 5 (by decide) (hd 5 (by kernel_rfl))
          clear hJ hd hcl
          simp only [Par.GivesW, d5]
          go_simp
          all_goals exact HJ.out.up 6 (by decide)
        · have HJ := Lib.hid hJ
          obtain ⟨y1, y2, y3, y4⟩ := HX.out w hJ.gb
          have d6 : vs 6 = (Value.pointer (some ⟨b, 0, none⟩)) := hJ.ev 6 (by decide) (hd 6 (by kernel_rfl))
          clear hJ hd hcl
          simp only [Par.GivesW, d6]
          go_simp
          all_goals exact HJ.out.up 7 (by decide)
        · have HJ := Lib.hid hJ
          obtain ⟨y1, y2, y3, y4⟩ := HX.out w hJ.gb
          have d7 : vs 7 = (Value.pointer (some ⟨b, 1, none⟩)) := hJ.ev 7 (by decide) (hd 7 (by kernel_rfl))
          clear hJ hd hcl
          simp only [Par.GivesW, d7]
          go_simp
          all_goals exact HJ.out.up 8 (by decide)
        · have HJ := Lib.hid hJ
          obtain ⟨y1, y2, y3, y4⟩ := HX.out w hJ.gb
          clear hJ hd hcl
          simp only [Par.GivesW]
          go_simp
          all_goals exact HJ.out.up 9 (by decide)
        · have HJ := Lib.hid hJ
          obtain ⟨y1, y2, y3, y4⟩ := HX.out w hJ.gb
          have d8 : vs 8 = .slice (some ⟨go, 0, none⟩) 1 co := hJ.ev 8 (by decide) (hd 8 (by kernel_rfl))
          have d9 : vs 9 = (Value.int .i64 (0)) := hJ.ev 9 (by decide) (hd 9 (by kernel_rfl))
          clear hJ hd hcl
          simp only [Par.GivesW, d8, d9]
          go_simp
          all_goals exact HJ.out.up 10 (by decide)
        · have HJ := Lib.hid hJ
          obtain ⟨y1, y2, y3, y4⟩ := HX.out w hJ.gb
          have d10 : vs 10 = (Value.pointer (some ⟨go, 0, none⟩)) := hJ.ev 10 (by decide) (hd 10 (by kernel_rfl))
          clear hJ hd hcl
          simp only [Par.GivesW, d10]
          go_simp
          all_goals exact HJ.out.up 11 (by decide)
        · have HJ := Lib.hid hJ
          obtain ⟨y1, y2, y3, y4⟩ := HX.out w hJ.gb
          clear hJ hd hcl
          simp only [Par.GivesW]
          go_simp
          all_goals exact HJ.out.up 12 (by decide)
        · have HJ := Lib.hid hJ
          obtain ⟨y1, y2, y3, y4⟩ := HX.out w hJ.gb
          clear hJ hd hcl
          simp only [Par.GivesW]
          go_simp
          all_goals exact HJ.out.up 13 (by decide)
        · have h15 : l 15 = false := by cases h : l 15 with | false => rfl | true => exact absurd (hcl 15 14 (by kernel_rfl) h) (by simp [hl])
          have h16 : l 16 = false := by cases h : l 16 with | false => rfl | true => exact absurd (hcl 16 15 (by kernel_rfl) h) (by simp [h15])
          have h17 : l 17 = false := by cases h : l 17 with | false => rfl | true => exact absurd (hcl 17 16 (by kernel_rfl) h) (by simp [h16])
          have d13 : vs 13 = .slice p vals.length cap := by rw [HN.out.1]; exact hJ.ev 13 (by decide) (hd 13 (by kernel_rfl))
          obtain ⟨g1, k1, w6, hrun, hw6, hb6⟩ := app_vals (HV5.out.later (hJ.f0 h17)) (by rw [HN.out.1, ← HN.out.2.1]; exact hc) (by rw [HN.out.1, ← HN.out.2.1]; exact h0)
          exact Par.gives_append rfl (.const (.slice none 0 0)) (.tmp 74) 40 40 rfl rfl d13 hrun (hJ.s14 h15 h16 h17 hw6 hb6)
        · have h16 : l 16 = false := by cases h : l 16 with | false => rfl | true => exact absurd (hcl 16 15 (by kernel_rfl) h) (by simp [hl])
          have h17 : l 17 = false := by cases h : l 17 with | false => rfl | true => exact absurd (hcl 17 16 (by kernel_rfl) h) (by simp [h16])
          have d12 : vs 12 = (Value.int .i64 ((next : Int))) := hJ.ev 12 (by decide) (hd 12 (by kernel_rfl))
          obtain ⟨g4, c4, e14, r14, z14⟩ := hJ.f14 (hd 14 (by kernel_rfl))
          have HJ := Lib.hid (hJ.s15 h16 h17)
          rw [e14] at HJ
          clear hJ hd hcl r14
          simp only [Par.GivesW, d12, e14]
          go_simp
          all_goals exact HJ.out
        · have h17 : l 17 = false := by cases h : l 17 with | false => rfl | true => exact absurd (hcl 17 16 (by kernel_rfl) h) (by simp [hl])
          have h15 := hd 15 (by kernel_rfl)
          have d15 := hJ.f15 h15
          have h14 := hcl 15 14 (by kernel_rfl) h15
          obtain ⟨g4, c4, e14, r14, z14⟩ := hJ.f14 h14
          have HJ := Lib.hid (hJ.s16 h14 h17)
          rw [e14] at HJ d15
          clear hJ hd hcl r14
          simp only [Par.GivesW, d15]
          go_simp
          all_goals exact HJ.out
        · have h16 := hd 16 (by kernel_rfl)
          have h14 := hcl 15 14 (by kernel_rfl) (hcl 16 15 (by kernel_rfl) h16)
          obtain ⟨y, rfl, e16, hy, h14y⟩ := hJ.f16 h16 hl
          obtain ⟨g4, c4, e14, r14, z14⟩ := hJ.f14 h14
          have d11 : vs 11 = i.rv := hJ.ev 11 (by decide) (hd 11 (by kernel_rfl))
          obtain ⟨g, cg, w6, hrun, hr6, hg6, ho6⟩ := app_row y (HD5.out.2.2.2.1.later hy) (by omega) (next : Int) (vs 14) (by rw [e14]; rfl)
          refine Par.gives_append rfl (.tmp 72) (.tmp 77) 88 88 rfl d11 e16 hrun (hJ.s17 h14 HD5.out.2.2.2.1 rfl hy h14y rfl hr6 hg6 ho6)
        · have HJ := Lib.hid hJ
          obtain ⟨y1, y2, y3, y4⟩ := HX.out w hJ.gb
          have d3 : vs 3 = .slice (some ⟨go, 0, none⟩) 1 co := hJ.ev 3 (by decide) (hd 3 (by kernel_rfl))
          have d4 : vs 4 = (Value.int .i64 (0)) := hJ.ev 4 (by decide) (hd 4 (by kernel_rfl))
          clear hJ hd hcl
          simp only [Par.GivesW, d3, d4]
          go_simp
          all_goals exact HJ.out.up 18 (by decide)
      case hTA =>
        intro l vs w4 hl hJ
        simp only [List.drop_succ_cons, List.drop_zero]
        have d18 : vs 18 = (Value.pointer (some ⟨go, 0, none⟩)) := hJ.ev 18 (by decide) (hl 18 (by decide))
        obtain ⟨g4, c4, e14, r14, z14⟩ := hJ.f14 (hl 14 (by decide))
        obtain ⟨g7, c7, e17, r17, z17, s17⟩ := hJ.f17 (hl 17 (by decide))
        obtain ⟨x1, x2, x3, x4⟩ := HX.out w4 hJ.gb
        have xf : w4.frozen? ⟨go, 0, none⟩ = false := by
          obtain ⟨hD5, ht5, hz5, hrw, o1⟩ := HD5.out
          have ho := hD5.outer
          rw [o1] at ho
          have hg := hJ.gb.block go (HRow.lt ho go rfl).2 (fun e => by have h1 := hD5.l3 go e.symm; have h2 := hD5.l2 go (by rw [o1]; rfl); omega)
          exact (World.frozen?_of_block (w := w5) hg).trans (ho.frozenAt 0)
        have hadd := HD5.out.1.addrow HD5.out.2.2.2.2 (id := (next : Int)) (vals := vals) r14 (by rw [HN.out.1, HN.out.2.1]) (e14 ▸ r17) hJ.gb z17 (fun q hq => ⟨by cases hq; exact z14, s17 q (by rw [e14]; exact hq)⟩) hid
        have HA := Lib.hid hadd
        simp only [d18, e17, e14]
        clear hadd hJ hl e14 r14 z14 r17 z17 s17 d18 e17 x2
        go_wp2_with fail
        go_ret2
        obtain ⟨i', lab', q1, q2, q3⟩ := HA.out
        refine ⟨rfl, i', lab', q1, fun q hq => q2 q (by have := HB.out.size; have := HD5.out.2.2.1; omega), ?_⟩
        exact ((Tn.of_below (S := fun q => lab q ≠ 0) HB.out).trans HD5.out.2.1 (fun _ _ h => h) (fun _ _ h => h)).trans q3 (fun _ _ h => h) (fun _ _ h => h)
end
end Go.Proofs.YtffpmmphpdkkbaaGreat
namespace Go.Proofs.YtffpmmphpdkkbaaGreat
open Go Go.RowKit Go.Proofs Co Co.S
/-- Rows that are appended to rows. -/
theorem app_rows (y : World) (base : Nat) {v : Value} {n : Nat} {xs : List Value} (hr : HRow y base 90 2 v n xs) {q : Option Addr} {m d : Nat} {ys : List Value} (hlen : ys.length = m * 2) (hc : 0 < m → ∃ b off, q = some ⟨b, off, none⟩ ∧ ∀ j u, ys[j]? = some u → y.cell? ⟨b, off + j, none⟩ = some u) (h1 : ∀ u ∈ ys, u.oneCell' = true)
    (hnm : n + m ≤ 1000000) (hb : base ≤ y.heap.size) :
    ∃ v' w', (Builtin.append_ #[88, 88] 88 #[v, .slice q m d]).run Tryz.prog y = .ok v' w' ∧ HRow w' base 90 2 v' (n + m) (xs ++ ys) ∧ y.grownBy w' v.ownBlock := by
  obtain ⟨i0, hi0, hz0, hz1, hz2⟩ := info_parts infoRow
  obtain ⟨p, c, rfl, hnc, _⟩ := hr.isslice
  rcases Nat.eq_zero_or_pos m with rfl | hpos
  · have : ys = [] := List.eq_nil_of_length_eq_zero (by omega)
    subst this
    exact ⟨_, y, append_zero Tryz.underlying88 hi0 hnc, by rw [List.append_nil]; exact hr, ⟨rfl, rfl, rfl, Nat.le_refl _, fun _ _ _ => rfl⟩⟩
  · obtain ⟨b, off, rfl, hcell⟩ := hc hpos
    obtain ⟨g, cap, w', h2, h3, h4, _⟩ := run_append_has (P := Tryz.prog) y base 88 88 90 i0 _ 2 32 Tryz.underlying88 hi0 hz0 hz1 hz2 rfl (by decide) hr ⟨b, off, none⟩ m d ys hlen (fun j u hj => by
      rw [Addr.add_lit]; exact hcell j u hj) h1 hpos (by unfold maxLen; omega) (by omega) hb
    exact ⟨_, w', h2, h3, h4⟩
/-- What holds where a row is taken out. -/
structure EJ (W0 : World) (E : Nat → Value) (k m : Nat) (xs ys : List Value) (l : Nat → Bool) (vs : Nat → Value) (w : World) : Prop where
  bl : Below W0.heap.size W0 w
  ev : ∀ j, j ≠ 14 → j ≠ 24 → j ≠ 25 → l j = true → vs j = E j
  f14 : l 14 = true → l 25 = false → HRow w W0.heap.size 90 2 (vs 14) k xs
  f24 : l 24 = true → ∃ q d, vs 24 = .slice q m d ∧ (0 < m → ∃ b off, q = some ⟨b, off, none⟩ ∧ ∀ j u, ys[j]? = some u → W0.cell? ⟨b, off + j, none⟩ = some u)
  f25 : l 25 = true → HRow w W0.heap.size 90 2 (vs 25) (k + m) (xs ++ ys)
section
open Par
variable {W0 w w' : World} {E : Nat → Value} {k m : Nat} {xs ys : List Value} {l : Nat → Bool} {vs : Nat → Value}
theorem EJ.up (h : EJ W0 E k m xs ys l vs w) (i : Nat) (hi : i ≠ 14 ∧ i ≠ 24 ∧ i ≠ 25) : EJ W0 E k m xs ys (upB l i) (upV vs i (E i)) w := by
  have e : ∀ j, j = 14 ∨ j = 24 ∨ j = 25 → upB l i j = l j ∧ upV vs i (E i) j = vs j := fun j hj => ⟨upB_ne (by omega), upV_ne (by omega)⟩
  refine ⟨h.bl, fun j a b c hl => ?_, fun h1 h2 => ?_, fun hl => ?_, fun hl => ?_⟩
  · by_cases e : j = i
    · subst e; rw [upV_eq]
    · rw [upV_ne e]; rw [upB_ne e] at hl; exact h.ev j a b c hl
  · rw [(e 14 (by simp)).1] at h1
    rw [(e 25 (by simp)).1] at h2
    rw [(e 14 (by simp)).2]; exact h.f14 h1 h2
  · rw [(e 24 (by simp)).1] at hl
    rw [(e 24 (by simp)).2]; exact h.f24 hl
  · rw [(e 25 (by simp)).1] at hl
    rw [(e 25 (by simp)).2]; exact h.f25 hl
theorem EJ.s14 (h : EJ W0 E k m xs ys l vs w) (h25 : l 25 = false) {v : Value} (hr : HRow w' W0.heap.size 90 2 v k xs) (hb : Below w.heap.size w w') : EJ W0 E k m xs ys (upB l 14) (upV vs 14 v) w' := by
  refine ⟨below_on h.bl hb, fun j a b c hl => ?_, fun h1 h2 => ?_, fun hl => ?_, fun hl => ?_⟩
  · rw [upV_ne a]; rw [upB_ne a] at hl; exact h.ev j a b c hl
  · rw [upV_eq]; exact hr
  · rw [upB_ne (by decide)] at hl
    rw [upV_ne (by decide)]; exact h.f24 hl
  · rw [upB_ne (by decide), h25] at hl; cases hl
theorem EJ.s24 (h : EJ W0 E k m xs ys l vs w) (h25 : l 25 = false) {q : Option Addr} {d : Nat} (hq : 0 < m → ∃ b off, q = some ⟨b, off, none⟩ ∧ ∀ j u, ys[j]? = some u → W0.cell? ⟨b, off + j, none⟩ = some u) : EJ W0 E k m xs ys (upB l 24) (upV vs 24 (.slice q m d)) w := by
  refine ⟨h.bl, fun j a b c hl => ?_, fun h1 h2 => ?_, fun hl => ?_, fun hl => ?_⟩
  · rw [upV_ne b]; rw [upB_ne b] at hl; exact h.ev j a b c hl
  · rw [upB_ne (by decide)] at h1
    rw [upV_ne (by decide)]; exact h.f14 h1 h25
  · exact ⟨q, d, upV_eq, hq⟩
  · rw [upB_ne (by decide), h25] at hl; cases hl
theorem EJ.s25 (h : EJ W0 E k m xs ys l vs w) (h14 : HRow w W0.heap.size 90 2 (vs 14) k xs) {v : Value} (hr : HRow w' W0.heap.size 90 2 v (k + m) (xs ++ ys)) (hg : w.grownBy w' (vs 14).ownBlock) : EJ W0 E k m xs ys (upB l 25) (upV vs 25 v) w' := by
  refine ⟨h.bl.trans ⟨hg.os, hg.tape, hg.output, hg.size, fun q hq => hg.block q (Nat.lt_of_lt_of_le hq h.bl.size) (fun e => by have := (HRow.lt h14 q e.symm).1; omega)⟩, fun j a b c hl => ?_, fun h1 h2 => ?_, fun hl => ?_, fun hl => ?_⟩
  · rw [upV_ne c]; rw [upB_ne c] at hl; exact h.ev j a b c hl
  · rw [upB_eq] at h2; cases h2
  · rw [upB_ne (by decide)] at hl
    rw [upV_ne (by decide)]; exact h.f24 hl
  · rw [upV_eq]; exact hr
end
section
variable {W : World} {b next : Nat} {t : T} {A : List R1} {i : DI} {lab : Nat → Nat}
set_option maxRecDepth 100000 in
set_option maxHeartbeats 8000000 in
theorem ddel_yes (h : DbM W b t next A i lab) (hl : A.length ≤ 100000) {k : Nat} (hk : k < A.length) : Calls Tryz.prog 17 #[(Value.pointer (some ⟨b, 0, none⟩)), .int .i64 0, .int .i64 A[k].1] W fun e w' => e = .returned (.bool true) ∧ ∃ i' lab', DbM w' b t next (without A A[k].1) i' lab' ∧ Ext W lab lab' ∧ Tn (fun q => lab q ≠ 0) W w' := by
  have hat := dat_any h hl A[k].1
  rw [atP_some hk rfl (fun j hj hjk => Int.ne_of_lt (List.pairwise_iff_getElem.1 h.srt j k hj hk hjk))] at hat
  obtain ⟨x, hx⟩ : ∃ x, A[k].1 = x := ⟨_, rfl⟩
  obtain ⟨n, hn⟩ : ∃ n, A.length = n := ⟨_, rfl⟩
  obtain ⟨gr, cr, hrv, hnc, hcm⟩ := h.rows.slice (by omega)
  obtain ⟨go, co, o1, o2, o3, o4⟩ := h.outerC
  have xl := lt_of_heap h.box
  have hrw := h.rows
  have hone : ∀ u ∈ cellsR A i.vs, u.oneCell' = true := one_cellsR A i.vs (fun v hv => by
    obtain ⟨j, hj, rfl⟩ := List.getElem_of_mem hv
    obtain ⟨p, c, e, _⟩ := (h.vals j (by rw [← h.n]; exact hj) hj).isslice
    rw [e]; rfl)
  have hlc := cellsR_len h.n
  rw [hrv] at o3 hrw
  have hcell : ∀ j u, (cellsR A i.vs)[j]? = some u → W.cell? ⟨gr, j, none⟩ = some u := fun j u hj => hrw.cell hj
  have HD := Lib.hid (And.intro h (And.intro o1 (And.intro hrv (And.intro hrw (And.intro hone (And.intro hlc hcell))))))
  rw [hx] at hat ⊢
  rw [hn] at o3 hnc
  have HN := Lib.hid (And.intro hn (And.intro hx hk))
  have hki : (k : Int) < (n : Int) := by omega
  have hkc : (k : Int) ≤ (cr : Int) := by omega
  have hnci : (n : Int) ≤ (cr : Int) := by omega
  have hcm2 : (cr : Int) ≤ 9223372036854775807 := by unfold maxLen at hcm; omega
  have hk2 : (k : Int) ≤ 100000 := by omega
  have hkn : ¬ (k : Int) < 0 := by omega
  have hn2 : (n : Int) ≤ 100000 := by omega
  have hk1 : (0 : Int) ≤ (k : Int) + 1 := by omega
  have hk1n : (k : Int) + 1 ≤ (n : Int) := by omega
  have HX : Hid (∀ w, Below W.heap.size W w → w.cell? ⟨go, 0, none⟩ = some (.slice (some ⟨gr, 0, none⟩) n cr) ∧ w.cell? ⟨b, 1, none⟩ = some (.slice (some ⟨go, 0, none⟩) 1 co) ∧ b < w.heap.size ∧ go < w.heap.size) := Lib.hid (fun w hg =>
    ⟨(World.cell?_of_block (w := W) (hg.block go o2)).trans o3, (World.cell?_of_block (w := W) (hg.block b xl)).trans o4, Nat.lt_of_lt_of_le xl hg.size, Nat.lt_of_lt_of_le o2 hg.size⟩)
  clear h hn hrw hone hlc hcell hrv o1 o2 o3 o4 xl hl
  go_enter Tryz.func17, Tryz.ntmps17
  go_upto_region 4 with (go_at_call 44; (with_reducible refine hat.mono ?_); rintro e w2 ⟨rfl, hw⟩; subst w2; clear hat)
  refine Par.wp_region_par4 27 (EJ W (fun idx => [(Value.pointer (some ⟨b, 0, none⟩)), (Value.pointer (some ⟨b, 0, none⟩)), (Value.pointer (some ⟨b, 1, none⟩)), .slice (some ⟨go, 0, none⟩) 1 co, (Value.int .i64 (0)), (Value.pointer (some ⟨b, 0, none⟩)), (Value.pointer (some ⟨b, 0, none⟩)), (Value.pointer (some ⟨b, 1, none⟩)), .slice (some ⟨go, 0, none⟩) 1 co, (Value.int .i64 (0)), (Value.pointer (some ⟨go, 0, none⟩)), .slice (some ⟨gr, 0, none⟩) n cr, (Value.int .i64 ((k : Int))), .slice (some ⟨gr, 0, none⟩) k cr, undef,
    (Value.pointer (some ⟨b, 0, none⟩)), (Value.pointer (some ⟨b, 0, none⟩)), (Value.pointer (some ⟨b, 1, none⟩)), .slice (some ⟨go, 0, none⟩) 1 co, (Value.int .i64 (0)), (Value.pointer (some ⟨go, 0, none⟩)), .slice (some ⟨gr, 0, none⟩) n cr, (Value.int .i64 ((k : Int))), (Value.int .i64 ((k : Int) + 1)), undef, undef, (Value.pointer (some ⟨go, 0, none⟩))].getD idx undef) k (n - (k + 1)) ((cellsR A i.vs).take (k * 2)) ((cellsR A i.vs).drop ((k + 1) * 2))) ?AA ?hmA ?hBA ?hAA ?hJA ?hopA ?hTA
  case hmA => kernel_rfl
  case hBA => kernel_rfl
  case hAA =>
    intro vs
    simp only [Par.putA, Par.dstAt, Act.put, List.getElem?_toArray, List.getElem?_cons_zero, List.getElem?_cons_succ, Option.bind_some, List.setIfInBounds_toArray, List.set_cons_zero, List.set_cons_succ]
    rfl
  case hJA =>
    intro vs
    exact ⟨below_drew W, fun _ _ _ _ h => (by cases h), fun h => (by cases h), fun h => (by cases h), fun h => (by cases h)⟩
  case hopA =>
    simp only [List.take_succ_cons, List.take_zero, Par.GiveAllK, and_true]
    refine ⟨fun l vs w hJ hl hd hcl => ?_, fun l vs w hJ hl hd hcl => ?_, fun l vs w hJ hl hd hcl => ?_, fun l vs w hJ hl hd hcl => ?_, fun l vs w hJ hl hd hcl => ?_, fun l vs w hJ hl hd hcl => ?_, fun l vs w hJ hl hd hcl => ?_, fun l vs w hJ hl hd hcl => ?_, fun l vs w hJ hl hd hcl => ?_, fun l vs w hJ hl hd hcl => ?_, fun l vs w hJ hl hd hcl => ?_, fun l vs w hJ hl hd hcl => ?_, fun l vs w hJ hl hd hcl => ?_, fun l vs w hJ hl hd hcl => ?_, fun l vs w hJ hl hd hcl => ?_, fun l vs w hJ hl hd hcl => ?_, fun l vs w hJ hl hd hcl => ?_, fun l vs w hJ hl hd hcl => ?_, fun l vs w hJ hl hd hcl => ?_, fun l vs w hJ hl hd hcl => ?_, fun l vs w hJ hl hd hcl => ?_, fun l vs w hJ hl hd hcl => ?_, fun l vs w hJ hl hd hcl => ?_, fun l vs w hJ hl hd hcl => ?_, fun l vs w hJ hl hd hcl => ?_, fun l vs w hJ hl hd hcl => ?_, fun l vs w hJ hl hd hcl => ?_⟩
    · have HJ := Lib.hid hJ
      obtain ⟨y1, y2, y3, y4⟩ := HX.out w hJ.bl
      clear hJ hd hcl
      simp only [Par.GivesW]
      go_simp
      all_goals exact HJ.out.up 0 (by decide)
    · have HJ := Lib.hid hJ
      obtain ⟨y1, y2, y3, y4⟩ := HX.out w hJ.bl
      have d0 : vs 0 = (Value.pointer (some ⟨b, 0, none⟩)) := hJ.ev 0 (by decide) (by decide) (by decide) (hd 0 (by kernel_rfl))
      clear hJ hd hcl
      simp only [Par.GivesW, d0]
      go_simp
      all_goals exact HJ.out.up 1 (by decide)
    · have HJ := Lib.hid hJ
      obtain ⟨y1, y2, y3, y4⟩ := HX.out w hJ.bl
      have d1 : vs 1 = (Value.pointer (some ⟨b, 0, none⟩)) := hJ.ev 1 (by decide) (by decide) (by decide) (hd 1 (by kernel_rfl))
      clear hJ hd hcl
      simp only [Par.GivesW, d1]
      go_simp
      all_goals exact HJ.out.up 2 (by decide)
    · have HJ := Lib.hid hJ
      obtain ⟨y1, y2, y3, y4⟩ := HX.out w hJ.bl
      have d2 : vs 2 = (Value.pointer (some ⟨b, 1, none⟩)) := hJ.ev 2 (by decide) (by decide) (by decide) (hd 2 (by kernel_rfl))
      clear hJ hd hcl
      simp only [Par.GivesW, d2]
      go_simp
      all_goals exact HJ.out.up 3 (by decide)
    · have HJ := Lib.hid hJ
      obtain ⟨y1, y2, y3, y4⟩ := HX.out w hJ.bl
      clear hJ hd hcl
      simp only [Par.GivesW]
      go_simp
      all_goals exact HJ.out.up 4 (by decide)
    · have HJ := Lib.hid hJ
      obtain ⟨y1, y2, y3, y4⟩ := HX.out w hJ.bl
      clear hJ hd hcl
      simp only [Par.GivesW]
      go_simp
      all_goals exact HJ.out.up 5 (by decide)
    · have HJ := Lib.hid hJ
      obtain ⟨y1, y2, y3, y4⟩ := HX.out w hJ.bl
      have d5 : vs 5 = (Value.pointer (some ⟨b, 0, none⟩)) := hJ.ev 5 (by decide) (by decide) (by decide) (hd 5 (by kernel_rfl))
      clear hJ hd hcl
      simp only [Par.GivesW, d5]
      go_simp
      all_goals exact HJ.out.up 6 (by decide)
    · have HJ := Lib.hid hJ
      obtain ⟨y1, y2, y3, y4⟩ := HX.out w hJ.bl
      have d6 : vs 6 = (Value.pointer (some ⟨b, 0, none⟩)) := hJ.ev 6 (by decide) (by decide) (by decide) (hd 6 (by kernel_rfl))
      clear hJ hd hcl
      simp only [Par.GivesW, d6]
      go_simp
      all_goals exact HJ.out.up 7 (by decide)
    · have HJ := Lib.hid hJ
      obtain ⟨y1, y2, y3, y4⟩ := HX.out w hJ.bl
      have d7 : vs 7 = (Value.pointer (some ⟨b, 1, none⟩)) := hJ.ev 7 (by decide) (by decide) (by decide) (hd 7 (by kernel_rfl))
      clear hJ hd hcl
      simp only [Par.GivesW, d7]
      go_simp
      all_goals exact HJ.out.up 8 (by decide)
    · have HJ := Lib.hid hJ
      obtain ⟨y1, y2, y3, y4⟩ := HX.out w hJ.bl
      clear hJ hd hcl
      simp only [Par.GivesW]
      go_simp
      all_goals exact HJ.out.up 9 (by decide)
    · have HJ := Lib.hid hJ
      obtain ⟨y1, y2, y3, y4⟩ := HX.out w hJ.bl
      have d8 : vs 8 = .slice (some ⟨go, 0, none⟩) 1 co := hJ.ev 8 (by decide) (by decide) (by decide) (hd 8 (by kernel_rfl))
      have d9 : vs 9 = (Value.int .i64 (0)) := hJ.ev 9 (by decide) (by decide) (by decide) (hd 9 (by kernel_rfl))
      clear hJ hd hcl
      simp only [Par.GivesW, d8, d9]
      go_simp
      all_goals exact HJ.out.up 10 (by decide)
    · have HJ := Lib.hid hJ
      obtain ⟨y1, y2, y3, y4⟩ := HX.out w hJ.bl
      have d10 : vs 10 = (Value.pointer (some ⟨go, 0, none⟩)) := hJ.ev 10 (by decide) (by decide) (by decide) (hd 10 (by kernel_rfl))
      clear hJ hd hcl
      simp only [Par.GivesW, d10]
      go_simp
      all_goals exact HJ.out.up 11 (by decide)
    · have HJ := Lib.hid hJ
      obtain ⟨y1, y2, y3, y4⟩ := HX.out w hJ.bl
      clear hJ hd hcl
      simp only [Par.GivesW]
      go_simp
      all_goals exact HJ.out.up 12 (by decide)
    · have HJ := Lib.hid hJ
      obtain ⟨y1, y2, y3, y4⟩ := HX.out w hJ.bl
      have d11 : vs 11 = .slice (some ⟨gr, 0, none⟩) n cr := hJ.ev 11 (by decide) (by decide) (by decide) (hd 11 (by kernel_rfl))
      have d12 : vs 12 = (Value.int .i64 ((k : Int))) := hJ.ev 12 (by decide) (by decide) (by decide) (hd 12 (by kernel_rfl))
      clear hJ hd hcl
      simp only [Par.GivesW, d11, d12]
      go_simp
      all_goals exact HJ.out.up 13 (by decide)
    · have h25 : l 25 = false := by cases h : l 25 with | false => rfl | true => exact absurd (hcl 25 14 (by kernel_rfl) h) (by simp [hl])
      have d13 : vs 13 = .slice (some ⟨gr, 0, none⟩) k cr := hJ.ev 13 (by decide) (by decide) (by decide) (hd 13 (by kernel_rfl))
      have hk := HN.out.2.2
      have hlc := HD.out.2.2.2.2.2.1
      obtain ⟨v', w6, hrun, hr6, hg6⟩ := app_rows w W.heap.size (HRow.nil (w := w) (base := W.heap.size)) (q := some ⟨gr, 0, none⟩) (m := k) (d := cr) (ys := (cellsR A i.vs).take (k * 2)) (by rw [List.length_take]; omega) (fun _ => ⟨gr, 0, rfl, fun j u hj => by
        rw [Nat.zero_add]
        have hj2 : (cellsR A i.vs)[j]? = some u := by
          rw [List.getElem?_take] at hj
          split at hj
          · exact hj
          · cases hj
        have hc := HD.out.2.2.2.2.2.2 j u hj2
        exact (World.cell?_of_block (w := W) (hJ.bl.block _ (World.block_lt_of_cell? _ _ hc))).trans hc⟩) (fun u hu => HD.out.2.2.2.2.1 u (List.mem_of_mem_take hu)) (by omega) hJ.bl.size
      rw [Nat.zero_add, List.nil_append] at hr6
      exact Par.gives_append rfl (.const (.slice none 0 0)) (.tmp 27) 88 88 rfl rfl d13 hrun (hJ.s14 h25 hr6 ⟨hg6.os, hg6.tape, hg6.output, hg6.size, fun q hq => hg6.block q hq (by simp [Value.ownBlock])⟩)
    · have HJ := Lib.hid hJ
      obtain ⟨y1, y2, y3, y4⟩ := HX.out w hJ.bl
      clear hJ hd hcl
      simp only [Par.GivesW]
      go_simp
      all_goals exact HJ.out.up 15 (by decide)
    · have HJ := Lib.hid hJ
      obtain ⟨y1, y2, y3, y4⟩ := HX.out w hJ.bl
      have d15 : vs 15 = (Value.pointer (some ⟨b, 0, none⟩)) := hJ.ev 15 (by decide) (by decide) (by decide) (hd 15 (by kernel_rfl))
      clear hJ hd hcl
      simp only [Par.GivesW, d15]
      go_simp
      all_goals exact HJ.out.up 16 (by decide)
    · have HJ := Lib.hid hJ
      obtain ⟨y1, y2, y3, y4⟩ := HX.out w hJ.bl
      have d16 : vs 16 = (Value.pointer (some ⟨b, 0, none⟩)) := hJ.ev 16 (by decide) (by decide) (by decide) (hd 16 (by kernel_rfl))
      clear hJ hd hcl
      simp only [Par.GivesW, d16]
      go_simp
      all_goals exact HJ.out.up 17 (by decide)
    · have HJ := Lib.hid hJ
      obtain ⟨y1, y2, y3, y4⟩ := HX.out w hJ.bl
      have d17 : vs 17 = (Value.pointer (some ⟨b, 1, none⟩)) := hJ.ev 17 (by decide) (by decide) (by decide) (hd 17 (by kernel_rfl))
      clear hJ hd hcl
      simp only [Par.GivesW, d17]
      go_simp
      all_goals exact HJ.out.up 18 (by decide)
    · have HJ := Lib.hid hJ
      obtain ⟨y1, y2, y3, y4⟩ := HX.out w hJ.bl
      clear hJ hd hcl
      simp only [Par.GivesW]
      go_simp
      all_goals exact HJ.out.up 19 (by decide)
    · have HJ := Lib.hid hJ
      obtain ⟨y1, y2, y3, y4⟩ := HX.out w hJ.bl
      have d18 : vs 18 = .slice (some ⟨go, 0, none⟩) 1 co := hJ.ev 18 (by decide) (by decide) (by decide) (hd 18 (by kernel_rfl))
      have d19 : vs 19 = (Value.int .i64 (0)) := hJ.ev 19 (by decide) (by decide) (by decide) (hd 19 (by kernel_rfl))
      clear hJ hd hcl
      simp only [Par.GivesW, d18, d19]
      go_simp
      all_goals exact HJ.out.up 20 (by decide)
    · have HJ := Lib.hid hJ
      obtain ⟨y1, y2, y3, y4⟩ := HX.out w hJ.bl
      have d20 : vs 20 = (Value.pointer (some ⟨go, 0, none⟩)) := hJ.ev 20 (by decide) (by decide) (by decide) (hd 20 (by kernel_rfl))
      clear hJ hd hcl
      simp only [Par.GivesW, d20]
      go_simp
      all_goals exact HJ.out.up 21 (by decide)
    · have HJ := Lib.hid hJ
      obtain ⟨y1, y2, y3, y4⟩ := HX.out w hJ.bl
      clear hJ hd hcl
      simp only [Par.GivesW]
      go_simp
      all_goals exact HJ.out.up 22 (by decide)
    · have HJ := Lib.hid hJ
      obtain ⟨y1, y2, y3, y4⟩ := HX.out w hJ.bl
      have d22 : vs 22 = (Value.int .i64 ((k : Int))) := hJ.ev 22 (by decide) (by decide) (by decide) (hd 22 (by kernel_rfl))
      clear hJ hd hcl
      simp only [Par.GivesW, d22]
      go_simp
      have hw : IntKind.i64.wrap ((k : Int) + 1) = (k : Int) + 1 := by rw [IntKind.wrap_i64]; omega
      rw [hw]
      exact HJ.out.up 23 (by decide)
    · have h25 : l 25 = false := by cases h : l 25 with | false => rfl | true => exact absurd (hcl 25 24 (by kernel_rfl) h) (by simp [hl])
      have d21 : vs 21 = .slice (some ⟨gr, 0, none⟩) n cr := hJ.ev 21 (by decide) (by decide) (by decide) (hd 21 (by kernel_rfl))
      have d23 : vs 23 = (Value.int .i64 ((k : Int) + 1)) := hJ.ev 23 (by decide) (by decide) (by decide) (hd 23 (by kernel_rfl))
      have HJ := Lib.hid hJ
      clear hJ hd hcl
      simp only [Par.GivesW, d21, d23]
      go_simp
      all_goals exact HJ.out.s24 h25 (fun hm => ⟨gr, (k + 1) * 2, if_neg (by omega), fun j u hj => by rw [List.getElem?_drop] at hj; exact HD.out.2.2.2.2.2.2 _ u hj⟩)
    · have h14 := hJ.f14 (hd 14 (by kernel_rfl)) hl
      obtain ⟨q, d, e24, hq⟩ := hJ.f24 (hd 24 (by kernel_rfl))
      have hlc := HD.out.2.2.2.2.2.1
      have hkl := HN.out.2.2
      have hnl := HN.out.1
      obtain ⟨v', w6, hrun, hr6, hg6⟩ := app_rows w W.heap.size h14 (q := q) (m := n - (k + 1)) (d := d) (ys := (cellsR A i.vs).drop ((k + 1) * 2)) (by rw [List.length_drop]; omega) (fun hm => by
        obtain ⟨b', off, e, hc⟩ := hq hm
        exact ⟨b', off, e, fun j u hj => (World.cell?_of_block (w := W) (hJ.bl.block _ (World.block_lt_of_cell? _ _ (hc j u hj)))).trans (hc j u hj)⟩) (fun u hu => HD.out.2.2.2.2.1 u (List.mem_of_mem_drop hu)) (by omega) hJ.bl.size
      exact Par.gives_append rfl (.tmp 28) (.tmp 38) 88 88 rfl rfl e24 hrun (hJ.s25 h14 hr6 hg6)
    · have HJ := Lib.hid hJ
      obtain ⟨y1, y2, y3, y4⟩ := HX.out w hJ.bl
      have d3 : vs 3 = .slice (some ⟨go, 0, none⟩) 1 co := hJ.ev 3 (by decide) (by decide) (by decide) (hd 3 (by kernel_rfl))
      have d4 : vs 4 = (Value.int .i64 (0)) := hJ.ev 4 (by decide) (by decide) (by decide) (hd 4 (by kernel_rfl))
      clear hJ hd hcl
      simp only [Par.GivesW, d3, d4]
      go_simp
      all_goals exact HJ.out.up 26 (by decide)
  case hTA =>
    intro l vs w4 hl hJ
    simp only [List.drop_succ_cons, List.drop_zero]
    have d26 : vs 26 = (Value.pointer (some ⟨go, 0, none⟩)) := hJ.ev 26 (by decide) (by decide) (by decide) (hl 26 (by decide))
    have r25 := hJ.f25 (hl 25 (by decide))
    obtain ⟨x1, x2, x3, x4⟩ := HX.out w4 hJ.bl
    have hlen : k + (n - (k + 1)) = A.length - 1 := by have := HN.out.1; have := HN.out.2.2; omega
    have xf : w4.frozen? ⟨go, 0, none⟩ = false := by
      have ho := (HD.out.1.later hJ.bl).outer
      rw [HD.out.2.1] at ho
      exact ho.frozenAt 0
    obtain ⟨u25, hu25⟩ : ∃ u, vs 25 = u := ⟨_, rfl⟩
    rw [hu25] at r25
    have hadd := HD.out.1.delrow HD.out.2.1 HN.out.2.2 (hlen ▸ HRow.mono r25 (Nat.zero_le _)) hJ.bl (fun q hq => (HRow.lt r25 q hq).1)
    obtain ⟨p5, c5, e5, _, _⟩ := r25.isslice
    rw [HN.out.2.1, e5] at hadd
    rw [e5] at hu25
    have HA := Lib.hid hadd
    simp only [d26, hu25]
    clear hadd hJ hl r25 e5 d26 hu25 x2 hlen
    go_wp2_with fail
    go_ret
    exact ⟨rfl, HA.out⟩
end
end Go.Proofs.YtffpmmphpdkkbaaGreat
