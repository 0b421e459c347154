/- PathOrder: its walk. -/
import Derived.Test.YtcgceigcegddlaaWP
namespace Go.Proofs.Ytcgceigcegddlaa
open Go Go.RowKit Go.Proofs

theorem wpList_append_g {P : Program} {w w' : World} {ops : Array Oper} {rest : List Oper} {o : Oper} {a : Act} {Q : Exit → Act → World → Prop} {vs vx v' : Value} (hgd : Region.wanted o (yielded ops a.tmps) = true) (s x : Operand) (t : TypeId)
    (ho : o.op = .call { callee := .builtin .append, args := #[s, x], argTypes := #[t, t] }) (hs : a.eval s = vs) (hx : a.eval x = vx)
    (hr : (Builtin.append_ #[t, t] o.type #[vs, vx]).run P w = .ok v' w')
    (h : wpList P ops Q rest (a.put o.dst v') w') : wpList P ops Q (o :: rest) a w := by
  unfold wpList
  rw [if_pos hgd]
  left
  unfold Oper.wp execOp
  simp only [ho, resolve, invoke, builtin, Sem.run_bind, Sem.run_pure, Result.andThen_ok, List.map_toArray, List.map_cons, List.map_nil, hs, hx, hr]
  exact h
theorem app_nil {y : World} {u : Value} {k : List ByteArray} {ty : TypeId} (hs : Wd y u k) (hl : k.length ≤ 1000) : ∃ p c w', (Builtin.append_ #[24, 24] ty #[.slice none 0 0, u]).run Try.prog y = .ok (.slice p k.length c) w' ∧ HRow w' y.heap.size 9 1 (.slice p k.length c) k.length (cellsS k) ∧ Below y.heap.size y w' := by
  obtain ⟨p, c, w', h1, h2, h3⟩ := app_words (y := y) (base := y.heap.size) (l := []) (ty := ty) HRow.nil hs (by simp; omega) (Nat.le_refl _)
  exact ⟨p, c, w', h1, h2, below_row (HRow.nil (w := y) (base := y.heap.size) (e := 9) (size := 1)) h3 (Nat.le_refl _) (Nat.le_refl _)⟩
theorem app_lit {y : World} {base : Nat} {v : Value} {l : List ByteArray} {x : ByteArray} {ty m : Nat} (hr : HRow y base 9 1 v l.length (cellsS l)) (hl : l.length ≤ 1000) (hb : base ≤ y.heap.size) (hm : l.length + 1 = m) : ∃ g c w', (Builtin.append_ #[24, 24] ty #[v, .slice (some ⟨y.heap.size, 0, none⟩) 1 1]).run Try.prog (y.alloc (.cells #[.string x] 9)) = .ok (.slice (some ⟨g, 0, none⟩) m c) w' ∧ HRow w' base 9 1 (.slice (some ⟨g, 0, none⟩) m c) m (cellsS (l ++ [x])) ∧ Below base y w' := by
  subst hm
  obtain ⟨g, cap, w', h1, h2, h3, _⟩ := app_one (ty := ty) Try.underlying24 info9 (by kernel_rfl) (by decide) (by decide) y base hr (by omega) hb #[.string x] rfl (by intro u hu; simp only [List.mem_cons, List.not_mem_nil, or_false] at hu; subst hu; rfl)
  have e : cellsS (l ++ [x]) = cellsS l ++ (#[Value.string x]).toList := by unfold cellsS; rw [List.map_append]; rfl
  exact ⟨g, cap, w', h1, by rw [e]; exact h2, below_row hr h3 (Nat.le_refl _) hb⟩
set_option maxRecDepth 100000 in
set_option maxHeartbeats 4000000 in
theorem pathOrder_walk {va vb vc : Value} {al bl cl : List ByteArray} {W : World} (ha : InS W va al) (hb : InS W vb bl) (hc : InS W vc cl) : Calls Try.prog 7 #[va, vb, vc] W fun e w' => e = .returned (.bool true) ∧ Below W.heap.size W w' := by
  have HI := Lib.hid (And.intro ha (And.intro hb hc))
  obtain ⟨pp, cpp, hpp, _, _⟩ := InR.slice ha
  obtain ⟨pq, cpq, hpq, _, _⟩ := InR.slice hb
  obtain ⟨pr, cpr, hpr, _, _⟩ := InR.slice hc
  obtain ⟨n0, hn0⟩ : ∃ m, al.length = m := ⟨_, rfl⟩
  obtain ⟨n1, hn1⟩ : ∃ m, bl.length = m := ⟨_, rfl⟩
  obtain ⟨n2, hn2⟩ : ∃ m, cl.length = m := ⟨_, rfl⟩
  rw [hn0] at hpp
  rw [hn1] at hpq
  rw [hn2] at hpr
  subst hpp hpq hpr
  clear ha hb hc hn0 hn1 hn2
  obtain ⟨a, hae⟩ : ∃ x, pathP al = x := ⟨_, rfl⟩
  obtain ⟨b, hbe⟩ : ∃ x, pathP bl = x := ⟨_, rfl⟩
  obtain ⟨c, hce⟩ : ∃ x, pathP cl = x := ⟨_, rfl⟩
  have hal : a.length ≤ 6 := hae ▸ pathP_len al
  have HE := Lib.hid (And.intro hae (And.intro hbe (And.intro hce hal)))
  clear hae hbe hce hal
  go_enter Try.func7, Try.ntmps7
  go_upto_region 4 with (go_at_call 8; (with_reducible refine (pbegun_any _).mono ?_); rintro e w0 ⟨rfl, hb0⟩; have H0 := Lib.hid hb0; have hc1 := path_is (HI.out.1.on hb0); rw [HE.out.1] at hc1; clear hb0)
  go_upto_region 5 with (first
    | (go_at_call 9; (with_reducible refine hc1.mono ?_); rintro e w1 ⟨p1, m1, c1, rfl, hm1, hW1, hb1⟩; have H1 := Lib.hid (And.intro hm1 (And.intro hW1 (below_on H0.out hb1))); have hc2 := path_is (HI.out.2.1.on H1.out.2.2); rw [HE.out.2.1] at hc2; clear hc1 hm1 hW1 hb1)
    | (go_at_call 9; (with_reducible refine hc2.mono ?_); rintro e w2 ⟨p2, m2, c2, rfl, hm2, hW2, hb2⟩; have H2 := Lib.hid (And.intro (H1.out.2.1.later hb2) (And.intro hW2 (below_on H1.out.2.2 hb2))); have hc3 := path_is (HI.out.2.2.on H2.out.2.2); rw [HE.out.2.2.1] at hc3; clear hc2 hm2 hW2 hb2)
    | (go_at_call 9; (with_reducible refine hc3.mono ?_); rintro e w3 ⟨p3, m3, c3, rfl, hm3, hW3, hb3⟩; have H3 := Lib.hid (And.intro (H2.out.1.later hb3) (And.intro (H2.out.2.1.later hb3) (And.intro hW3 (below_on H2.out.2.2 hb3)))); clear hc3 hm3 hW3 hb3))
  obtain ⟨x, hx⟩ : ∃ x, cmpP a b = x := ⟨_, rfl⟩
  obtain ⟨y, hy⟩ : ∃ x, cmpP b c = x := ⟨_, rfl⟩
  obtain ⟨z, hz⟩ : ∃ x, cmpP a c = x := ⟨_, rfl⟩
  have hx2 : cmpP b a = -x := by rw [← hx, cmpP_swap b a]
  have hxr := cmpP_range a b
  rw [hx] at hxr
  have hxl : -1 ≤ x := by omega
  have hxu : x ≤ 1 := by omega
  have htr : x ≤ 0 → y ≤ 0 → z ≤ 0 := by rw [← hx, ← hy, ← hz]; exact cmpP_trans
  have hself := pcmp_any H3.out.1 H3.out.1
  rw [cmpP_self] at hself
  have hab := hx ▸ pcmp_any H3.out.1 H3.out.2.1
  have hba := hx2 ▸ pcmp_any H3.out.2.1 H3.out.1
  obtain ⟨ml, hml⟩ : ∃ x, a.length = x := ⟨_, rfl⟩
  obtain ⟨pa, ca, w4, hrun1, hr4, hb4⟩ := app_nil (ty := 24) H3.out.1 (by have := HE.out.2.2.2; omega)
  obtain ⟨g, cg, w5, hrun2, hr5, hb5⟩ := app_lit (x := bX) (ty := 24) (m := ml + 1) hr4 (by have := HE.out.2.2.2; omega) hb4.size (by rw [hml])
  rw [hml] at hrun1 hrun2
  have hbw := hb4.trans hb5
  have hcs := pcmp_any (H3.out.1.later hbw) hr5.wd
  rw [cmpP_snoc] at hcs
  have K5 := Lib.hid (And.intro (H3.out.1.later hbw) (And.intro (H3.out.2.1.later hbw) (And.intro (H3.out.2.2.1.later hbw) (below_on H3.out.2.2.2 hbw))))
  clear hr4 hb4 hr5 hb5 hbw hml hx2 hxr
  have HX := Lib.hid (And.intro hx (And.intro hy hz))
  clear hx hy hz
  go_upto_region 7 with (first
    | (at_builtin; refine wpList_append_g (by rfl) (.const (.slice none 0 0)) (.tmp 33) 24 rfl rfl rfl hrun1 ?_)
    | (at_builtin; refine wpList_append_g (by rfl) (.tmp 34) (.tmp 35) 24 rfl rfl rfl hrun2 ?_)
    | (go_at_call 16; (with_reducible refine hself.mono ?_); rintro e w6 ⟨rfl, hw⟩; have hw := hw.symm; subst hw; clear hself)
    | (go_at_call 16; (with_reducible refine hab.mono ?_); rintro e w6 ⟨rfl, hw⟩; have hw := hw.symm; subst hw; clear hab)
    | (go_at_call 16; (with_reducible refine hba.mono ?_); rintro e w6 ⟨rfl, hw⟩; have hw := hw.symm; subst hw; clear hba)
    | (go_at_call 16; (with_reducible refine hcs.mono ?_); rintro e w6 ⟨rfl, hw⟩; have hw := hw.symm; subst hw; clear hcs))
  have hab := HX.out.1 ▸ pcmp_any K5.out.1 K5.out.2.1
  have hbc := HX.out.2.1 ▸ pcmp_any K5.out.2.1 K5.out.2.2.1
  have hac := HX.out.2.2 ▸ pcmp_any K5.out.1 K5.out.2.2.1
  by_cases h1 : 0 < x
  · go_wp2_with (go_at_call 16; (with_reducible refine hab.mono ?_); rintro e w6 ⟨rfl, hw⟩; have hw := hw.symm; subst hw; clear hab)
    go_ret
    exact ⟨by simp, K5.out.2.2.2⟩
  · have h1d : decide (0 < x) = false := decide_eq_false h1
    by_cases h2 : 0 < y
    · go_wp2_with (first
        | (go_at_call 16; (with_reducible refine hab.mono ?_); rintro e w6 ⟨rfl, hw⟩; have hw := hw.symm; subst hw; clear hab)
        | (go_at_call 16; (with_reducible refine hbc.mono ?_); rintro e w6 ⟨rfl, hw⟩; have hw := hw.symm; subst hw; clear hbc))
      go_ret
      exact ⟨by simp, K5.out.2.2.2⟩
    · have h2d : decide (0 < y) = false := decide_eq_false h2
      have h3 : z ≤ 0 := htr (by omega) (by omega)
      go_wp2_with (first
        | (go_at_call 16; (with_reducible refine hab.mono ?_); rintro e w6 ⟨rfl, hw⟩; have hw := hw.symm; subst hw; clear hab)
        | (go_at_call 16; (with_reducible refine hbc.mono ?_); rintro e w6 ⟨rfl, hw⟩; have hw := hw.symm; subst hw; clear hbc)
        | (go_at_call 16; (with_reducible refine hac.mono ?_); rintro e w6 ⟨rfl, hw⟩; have hw := hw.symm; subst hw; clear hac))
      go_ret
      exact ⟨by simp, K5.out.2.2.2⟩
end Go.Proofs.Ytcgceigcegddlaa
