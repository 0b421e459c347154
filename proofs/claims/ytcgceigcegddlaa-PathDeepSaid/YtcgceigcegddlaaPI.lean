/- path.ways. -/
import Derived.Test.YtcgceigcegddlaaPH
namespace Go.Proofs.Ytcgceigcegddlaa
open Go Go.RowKit Go.Proofs

/-- What ways answers. -/
def WaysOf (ts : List T) (n : Nat) (tb : ByteArray) (a : List ByteArray) (W : World) (e : Ending) (w' : World) : Prop := ∃ p m c vs, e = .returned (.slice p m c) ∧ m = (waysP ts n tb a).length ∧ PR W.heap.size (.slice p m c) vs (waysP ts n tb a) w' ∧ Below W.heap.size W w'
set_option maxRecDepth 100000 in
set_option maxHeartbeats 8000000 in
theorem ways_any {ts : List T} {pv : Value} (hf : AllFew ts) (hN : Nice ts) : ∀ (n : Nat) (tb : ByteArray) (a : List ByteArray) (va : Value) (W : World), a.length + n = 4 → SchP W pv ts → Wd W va a → Calls Try.prog 36 #[pv, .string tb, va] W (WaysOf ts n tb a W)
  | 0, tb, a, va, W, hl, hs, ha => by
    obtain ⟨pa, ca, rfl, hca, hma⟩ := ha.slice
    have hl4 : a.length = 4 := by omega
    rw [hl4]
    have e : waysP ts 0 tb a = [] := rfl
    unfold WaysOf
    rw [e]
    clear hs ha e hca hl
    go_enter Try.func36, Try.ntmps36
    go_wp2_with fail
    go_ret
    exact ⟨_, _, _, [], rfl, rfl, PR.nil _ _, Below.refl _ _⟩
  | k + 1, tb, a, va, W, hl, hs, ha => by
    obtain ⟨pa, ca, rfl, hca, hma⟩ := ha.slice
    have IH := Lib.hid (ways_any (pv := pv) hf hN k)
    obtain ⟨la, hla⟩ : ∃ x, a.length = x := ⟨_, rfl⟩
    rw [hla] at hca hl ha ⊢
    have hlen := ways_len hN (k + 1) tb a
    have hmany := manyW_le (k + 1) (by omega)
    have HL := Lib.hid (And.intro hla (And.intro hl (And.intro hs (And.intro ha (Nat.le_trans hlen hmany)))))
    unfold maxLen at hma
    have hne : ((la : Int) == 4) = false := by rw [beq_eq_false_iff_ne]; omega
    have hne2 : ¬ (la : Int) = 4 := by omega
    obtain ⟨t, ht⟩ : ∃ t, orT (findT ts tb) = t := ⟨_, rfl⟩
    have hfind := find_is (x := tb) hs hf ht rfl rfl rfl
    have hcols : colsAt ts tb = t.cols := by unfold colsAt; rw [ht]
    obtain ⟨nm, hnm⟩ : ∃ x, t.nm = x := ⟨_, rfl⟩
    obtain ⟨key, hkey⟩ : ∃ x, t.key = x := ⟨_, rfl⟩
    obtain ⟨ok, hok⟩ : ∃ x, hasT ts tb = x := ⟨_, rfl⟩
    rw [hnm, hkey, hok] at hfind
    have HT := Lib.hid (And.intro hcols hf)
    clear hs ha hla hl hlen hmany ht hcols hnm hkey hok
    go_enter Try.func36, Try.ntmps36
    go_upto_region 4 with fail
    go_upto_region 5 with (go_at_call 51; (with_reducible refine hfind.mono ?_); rintro e w1 ⟨p1, n1, c1, p2, n2, c2, rfl, hr, hb⟩)
    have hx5 := heap_alloc_new w1 (boxT nm (.slice p1 n1 c1) key (.slice p2 n2 c2))
    have hb6 := below_alloc w1 (boxT nm (.slice p1 n1 c1) key (.slice p2 n2 c2))
    obtain ⟨B, hBB⟩ : ∃ x, w1.heap.size = x := ⟨_, rfl⟩
    obtain ⟨w2, hw2⟩ : ∃ x, w1.alloc (boxT nm (.slice p1 n1 c1) key (.slice p2 n2 c2)) = x := ⟨_, rfl⟩
    have hr2 := hr.later hb6
    have hbw := below_on hb hb6
    rw [hBB, hw2] at hx5
    rw [hw2] at hr2 hbw
    rw [hBB, hw2]
    have hsl := hr2.c.slice
    obtain ⟨px, cx, e1, hnc, hcm⟩ := hsl
    obtain ⟨e2, e3, e4⟩ := Value.slice.inj e1
    subst e2 e4
    unfold maxLen at hcm
    rw [← e3] at hnc
    have HN := Lib.hid e3
    have H2 := Lib.hid (And.intro hr2.c (And.intro hbw hx5))
    have u1 := nd_cell hx5 1
    have ul := lt_of_heap hx5
    clear hfind hr hb hb6 hBB hw2 hr2 hbw hx5 e1 e3
    go_wp2_with fail
    go_loopg [7, 25] (n1 + 1) (fun gh av jv w => ∃ (j : Nat) (p : Option Addr) (m c : Nat) (vs : List Value), jv = .int .i64 (j : Int) ∧ j ≤ n1 ∧ n1 + 1 ≤ j + gh ∧ av = .slice p m c ∧ m = (part ts k tb a j).length ∧ PR w2.heap.size (.slice p m c) vs (part ts k tb a j) w ∧ Below w2.heap.size w2 w)
    case atStart => exact ⟨0, none, 0, 0, [], rfl, Nat.zero_le _, by omega, rfl, rfl, PR.nil _ _, Below.refl _ _⟩
    case round =>
      clear u1 ul
      obtain ⟨j, p, m, c, vs, rfl, hj, hg, rfl, hm, hP, hB⟩ := hrel
      have HI := Lib.hid (And.intro hP (And.intro hB hm))
      by_cases hlt : j < n1
      · have hjl : j < t.cols.length := by rw [← HN.out]; exact hlt
        have hjc : j < (colsAt ts tb).length := by rw [HT.out.1]; exact hjl
        have hps := part_succ ts k tb a hjc
        have hpl := part_len ts k tb a (j + 1)
        obtain ⟨bc, oc, rfl, hbc, c0, c1, c2, c3⟩ := RdC.col (RdC.later (H2.out.1) hB) hjl
        have hce : (colsAt ts tb)[j] = t.cols[j] := by simp only [HT.out.1]
        rw [hce] at hps
        obtain ⟨d, hd⟩ : ∃ d, t.cols[j] = d := ⟨_, rfl⟩
        rw [hd] at c0 c1 c2 c3 hps
        obtain ⟨x, kd, mu, tg⟩ := d
        simp only [] at c0 c1 c2 c3 hps
        have HPS := Lib.hid (And.intro hps (Nat.le_trans hpl HL.out.2.2.2.2))
        have hji : (j : Int) < (n1 : Int) := by omega
        clear hP hB hm hps hpl hd hce hjl hjc
        go_upto_region 8 with fail
        have hx5 := heap_alloc_new wr (.cells #[.string x, .int .i64 kd, .bool mu, .string tg] 33)
        have hb6 := below_alloc wr (.cells #[.string x, .int .i64 kd, .bool mu, .string tg] 33)
        obtain ⟨B3, hBB⟩ : ∃ x, wr.heap.size = x := ⟨_, rfl⟩
        obtain ⟨w3, hw3⟩ : ∃ y, wr.alloc (.cells #[.string x, .int .i64 kd, .bool mu, .string tg] 33) = y := ⟨_, rfl⟩
        have hP3 := HI.out.1.on hb6
        have hB3 := below_on HI.out.2.1 hb6
        rw [hBB, hw3] at hx5
        rw [hw3] at hP3 hB3
        rw [hBB, hw3]
        have u0 := nd_cell hx5 0
        have ul := lt_of_heap hx5
        have H3 := Lib.hid (And.intro hP3 (And.intro hB3 hx5))
        clear hb6 hBB hw3 hP3 hB3 hx5 c0 c1 c2 c3 hbc
        obtain ⟨l2, hl2⟩ : ∃ l2, a ++ [x] = l2 := ⟨_, rfl⟩
        obtain ⟨m2, hm2⟩ : ∃ m2, l2.length = m2 := ⟨_, rfl⟩
        have hcat : Calls Try.prog 52 #[.slice (some ⟨w3.heap.size + 1, 0, none⟩) 2 2] ((w3.alloc (.cells #[.string x] 9)).alloc (.cells #[.slice pa la ca, .slice (some ⟨w3.heap.size, 0, none⟩) 1 1] 24)) fun e w' => ∃ p c, e = .returned (.slice p m2 c) ∧ Wd w' (.slice p m2 c) l2 ∧ Below w3.heap.size w3 w' := by
          have b1 := below_alloc w3 (.cells #[.string x] 9)
          have b2 := below_alloc (w3.alloc (.cells #[.string x] 9)) (.cells #[.slice pa la ca, .slice (some ⟨w3.heap.size, 0, none⟩) 1 1] 24)
          have k2 := heap_alloc_new (w3.alloc (.cells #[.string x] 9)) (.cells #[.slice pa la ca, .slice (some ⟨w3.heap.size, 0, none⟩) 1 1] 24)
          rw [World.size_alloc] at k2
          refine (concat_is k2 (HL.out.2.2.2.1.later ((H2.out.2.1.trans (H3.out.2.1.mono H2.out.2.1.size)).trans ((below_on b1 b2).mono ?_))) ((Wd.lit (heap_alloc_new w3 (.cells #[.string x] 9))).later b2) (by rw [HL.out.1]; have := HL.out.2.1; omega) hl2 hm2).mono (fun e w' ⟨p, c, h1, h2, h3⟩ => ⟨p, c, h1, h2, below_on (below_on b1 b2) h3⟩)
          exact Nat.le_trans H2.out.2.1.size H3.out.2.1.size
        have HL2 := Lib.hid (And.intro hl2 hm2)
        clear hl2 hm2
        go_upto_region 9 with (go_at_call 52; (with_reducible refine hcat.mono ?_); rintro e w5 ⟨pp, cp, rfl, hw5, hb5⟩)
        have HB5 := Lib.hid (below_on H3.out.2.1 hb5)
        obtain ⟨g, cap, w6, hrun1, h6, hb6, hk6⟩ := (H3.out.1.on hb5).snoc (ty := 42) (m := m + 1) hw5 (by have := part_len ts k tb a j; have := HL.out.2.2.2.2; omega) HB5.out.size (by rw [HI.out.2.2])
        have hx6 := hk6 _ _ _ _ (heap_on hb5 H3.out.2.2) (by decide)
        have v3 := nd_cell hx6 3
        have vl := lt_of_heap hx6
        have hb26 := HB5.out.trans hb6
        have hw6 := hw5.kp hk6.kp9
        have hbW6 : Below W.heap.size W w6 := H2.out.2.1.trans (hb26.mono H2.out.2.1.size)
        have hcall := IH.out tg l2 (.slice pp m2 cp) w6 (by rw [← HL2.out.1, List.length_append]; have := HL.out.1; have := HL.out.2.1; simp only [List.length_cons, List.length_nil]; omega) (HL.out.2.2.1.later hbW6) hw6
        have H6 := Lib.hid (And.intro h6 hb26)
        clear hw5 hb5 hcat h6 hb6 hk6 hx6 hb26 hw6 hbW6
        go_upto_region 10 with (at_builtin; refine wpList_append_run rfl (.tmp 35) (.tmp 37) 42 rfl rfl rfl hrun1 ?_)
        go_upto_region 11 with (first
          | (go_at_call 36; (with_reducible refine hcall.mono ?_); rintro e w7 ⟨p7, m7, c7, vs7, rfl, hm7, h7, hb7⟩; obtain ⟨p8, cap8, w8, hrun2, h8, hb8, _⟩ := (H6.out.1.on hb7).app (ty := 42) (m := m + 1 + m7) h7 (by have e := HPS.out.2; rw [HPS.out.1, HL2.out.1, List.length_append] at e; omega) (Nat.le_trans H6.out.2.size hb7.size) (by rw [List.length_append, ← HI.out.2.2, hm7]; rfl); have H8 := Lib.hid (And.intro h8 (And.intro ((below_on H6.out.2 hb7).trans hb8) hm7)); clear h7 hb7 h8 hb8 hcall hm7)
          | (at_builtin; refine wpList_append_run rfl (.tmp 39) (.tmp 44) 42 rfl rfl rfl hrun2 ?_))
        go_wp2_with fail
        go_roundg (n1 - j)
        case measure => omega
        case rel =>
          refine ⟨j + 1, _, _, _, _, by go_num, by omega, by omega, rfl, ?_, by rw [HPS.out.1, HL2.out.1]; exact H8.out.1, H8.out.2.1⟩
          rw [HPS.out.1, HL2.out.1, List.length_append, List.length_append, ← HI.out.2.2, H8.out.2.2]; rfl
      · obtain rfl : j = n1 := by omega
        go_wp2_with fail
        go_ret
        have e : part ts k tb a j = waysP ts (k + 1) tb a := by rw [← part_all, HT.out.1, HN.out]
        rw [e] at HI
        exact ⟨_, _, _, vs, rfl, HI.out.2.2, HI.out.1.mono H2.out.2.1.size, H2.out.2.1.trans (HI.out.2.1.mono H2.out.2.1.size)⟩
end Go.Proofs.Ytcgceigcegddlaa
