/- BitmapRank: the walk. -/
import Derived.Test.YtpdidlnbeahanaaO6
namespace Go.Proofs.Ytpdidlnbeahanaa
open Go Go.RowKit Go.Shelf Go.Proofs

theorem Vm.bd {w : World} {v : Value} {P : Int → Bool} (h : Vm w v P) : ∀ x, P x = true → 0 ≤ x ∧ x < 65536 := by
  obtain ⟨l, _, h2, h3⟩ := h
  exact h3.bd h2
theorem elems_bd (P : Int → Bool) {k : Nat} (h : k < (elems P).length) : 0 ≤ (elems P)[k] ∧ (elems P)[k] < 65536 ∧ P (elems P)[k] = true := by
  have := mem_elems.1 (List.getElem_mem h)
  exact ⟨this.1.1, this.1.2, this.2⟩

set_option maxRecDepth 100000 in
set_option maxHeartbeats 4000000 in
theorem rank_walk (px : Option Addr) (xs : List Int) (nx cx : Nat) (k i : Int) (W : World) (hbeg : Calls Try.prog 9 #[] W fun e W' => e = .returned (.bool true) ∧ Below W.heap.size W W')
    (hx : xs.length = nx) (rx : Rd W px xs) (kx : nx ≤ cx ∧ cx ≤ maxLen) (hk63 : -9223372036854775808 ≤ k ∧ k ≤ 9223372036854775807) :
    Calls Try.prog 7 #[.slice px nx cx, (Value.int .i64 (k)), (Value.int .i64 (i))] W fun e W' => e = .returned (.bool true) ∧ Below W.heap.size W W' := by
  have cutx := cut_any px nx cx kx.1 kx.2
  obtain ⟨mx, hmx⟩ : ∃ m, min nx 60 = m := ⟨_, rfl⟩
  rw [hmx] at cutx
  have ofx := fun y (hb : Below W.heap.size W y) => vof (W := y) (xs := xs.take 60) (n := mx) (c := cx) (by rw [List.length_take]; omega) (by omega) (rx.cut.later hb)
  generalize ofP (xs.take 60) = P at ofx
  have hsel := fun y v (h : Vm y v P) => vsel h k hk63
  have hcnt := fun y v (h : Vm y v P) => vcount h
  have hlen := elems_len P
  obtain ⟨n, hn⟩ : ∃ n, (elems P).length = n := ⟨_, rfl⟩
  simp only [hn] at hcnt hlen
  clear hx rx kx hmx
  go_enter Try.func7, Try.ntmps7
  go_upto_region 5 with (first
    | (go_at_call 9; (with_reducible refine hbeg.mono ?_); rintro e w1 ⟨rfl, b1⟩; clear hbeg)
    | (go_at_call 10; (with_reducible refine (cutx _).mono ?_); rintro e w2 ⟨rfl, hw2⟩; subst w2; clear cutx)
    | (go_at_call 11; (with_reducible refine (ofx _ b1).mono ?_); rintro e w3 ⟨p1, q1, d1, rfl, m1, b2⟩; have b3 := below_on b1 b2; clear ofx b2 b1))
  have g1 := heap_alloc_new w3 (.cells #[.slice p1 q1 d1] 27)
  have B4 := below_alloc w3 (.cells #[.slice p1 q1 d1] 27)
  obtain ⟨xb, hxb⟩ : ∃ xb, w3.heap.size = xb := ⟨_, rfl⟩
  obtain ⟨y, hyw⟩ : ∃ y, w3.alloc (.cells #[.slice p1 q1 d1] 27) = y := ⟨_, rfl⟩
  rw [hyw, hxb]
  rw [hyw] at g1 B4
  have hB := below_on b3 B4
  have hM := (m1.later B4).bm g1
  rw [hxb] at hM
  have HX := Lib.hid (And.intro hM hB)
  have c0 := hM.cell
  have hs1 := hsel y _ hM.vm
  have hbd := hM.vm.bd
  have HBD := Lib.hid hbd
  clear m1 b3 g1 B4 hyw hxb hB hM hbd hsel
  obtain ⟨s, hs⟩ : ∃ s, sel (elems P) k = s := ⟨_, rfl⟩
  rw [hs] at hs1
  have HS := Lib.hid hs
  have HN := Lib.hid hn
  clear hs hn
  go_upto_region 6 with (go_at_call 17; (with_reducible refine hs1.mono ?_); rintro e y1 ⟨rfl, b1⟩; clear hs1; have h1 := HX.out.1.later b1; have c1 := h1.cell; have H1 := Lib.hid (And.intro h1 (below_on HX.out.2 b1)); have k1 := hcnt _ _ h1.vm; clear h1 b1 hcnt)
  go_cut [46] from 300 to 300 (fun bv w => bv = .bool false ∧ Bm w xb (.slice p1 q1 d1) P ∧ Below W.heap.size W w)
  case first =>
    by_cases hk : 0 ≤ k ∧ k < (n : Int)
    · obtain ⟨hk0, hkn⟩ := hk
      obtain ⟨j, rfl⟩ := Int.eq_ofNat_of_zero_le hk0
      have hj : j < (elems P).length := by rw [HN.out]; omega
      obtain ⟨e0, e1, e2⟩ := elems_bd P hj
      have eu := under_at (elems_srt P) hj
      have es := sel_at hj
      rw [HS.out] at es
      rw [← es] at e0 e1 e2 eu
      have kr := fun y v (h : Vm y v P) => vrank h s (by omega)
      have kh := fun y v (h : Vm y v P) => vhas h s
      rw [eu] at kr
      rw [e2] at kh
      clear es eu hj e2 HS HN
      go_wp2_with (first
        | (go_at_call 28; (with_reducible refine k1.mono ?_); rintro e y2 ⟨rfl, b2⟩; clear k1; have h2 := H1.out.1.later b2; have c2 := h2.cell; have B2 := below_on H1.out.2 b2; have kr := kr _ _ h2.vm; clear b2)
        | (go_at_call 16; (with_reducible refine kr.mono ?_); rintro e y3 ⟨rfl, b3⟩; clear kr; have h3 := h2.later b3; have c3 := h3.cell; have B3 := below_on B2 b3; have kh := kh _ _ h3.vm; clear b3)
        | (go_at_call 14; (with_reducible refine kh.mono ?_); rintro e y4 ⟨rfl, b4⟩; clear kh; have h4 := h3.later b4; have B4 := below_on B3 b4; clear b4))
      go_meet
      exact ⟨rfl, h4, B4⟩
    · have es : s = -1 := by rw [← HS.out]; exact sel_no (by rw [HN.out]; omega)
      subst es
      by_cases hk0 : 0 ≤ k
      · have hkn : decide (k < (n : Int)) = false := decide_eq_false (by omega)
        have hkn' : (n : Int) ≤ k := by omega
        clear hk
        go_wp2_with (first
          | (go_at_call 28; (with_reducible refine k1.mono ?_); rintro e y2 ⟨rfl, b2⟩; clear k1; have h2 := H1.out.1.later b2; have c2 := h2.cell; have B2 := below_on H1.out.2 b2; clear b2))
        go_meet
        exact ⟨rfl, h2, B2⟩
      · clear hk
        go_wp2_with fail
        go_meet
        exact ⟨rfl, H1.out.1, H1.out.2⟩
  case rest =>
    obtain ⟨rfl, hM, hB⟩ := hcut
    have c2 := hM.cell
    have HM := Lib.hid (And.intro hM hB)
    clear hM hB c1 H1 HX k1
    by_cases hi : i < 0 ∨ 65536 < i
    · rcases hi with hi | hi
      · go_wp2_with fail
        go_ret
        exact ⟨rfl, HM.out.2⟩
      · have hi0 : ¬ i < 0 := by omega
        go_wp2_with fail
        go_ret
        exact ⟨rfl, HM.out.2⟩
    · have hi0 : 0 ≤ i := by omega
      have hi1 : i ≤ 65536 := by omega
      have hus := under_succ (elems_srt P) i
      have hle := elems_len P
      have hul : under (elems P) i ≤ (elems P).length := List.length_filter_le _ _
      have kr := fun y v (h : Vm y v P) => vrank h i (by omega)
      have kr1 := fun y v (h : Vm y v P) => vrank h (i + 1) (by omega)
      have ka := fun y v (h : Vm y v (fun x => P x && spanP 0 i x)) => vcount h
      have hea : (elems (fun x => P x && spanP 0 i x)).length = under (elems P) i := elems_under P i
      rw [hea] at ka
      have kh := fun y v (h : Vm y v P) => vhas h i
      have hmem : i ∈ elems P ↔ P i = true := by
        rw [mem_elems]
        exact ⟨fun h => h.2, fun h => ⟨HBD.out i h, h⟩⟩
      obtain ⟨u, hu⟩ : ∃ u, under (elems P) i = u := ⟨_, rfl⟩
      obtain ⟨u1, hu1⟩ : ∃ u1, under (elems P) (i + 1) = u1 := ⟨_, rfl⟩
      obtain ⟨b, hb⟩ : ∃ b, P i = b := ⟨_, rfl⟩
      rw [hu] at kr ka hus hul
      rw [hu1] at kr1 hus
      rw [hb] at kh hmem
      have hw : IntKind.i64.wrap ((u1 : Int) - (u : Int)) = if b = true then 1 else 0 := by
        rw [Go.IntWalk.i64_in _ (by split at hus <;> omega)]
        by_cases hm : i ∈ elems P
        · rw [if_pos hm] at hus
          rw [if_pos (hmem.1 hm)]
          omega
        · rw [if_neg hm] at hus
          rw [if_neg (fun h => hm (hmem.2 h))]
          omega
      have hiw : IntKind.i64.wrap (i + 1) = i + 1 := Go.IntWalk.i64_in _ (by omega)
      have hid1 : ¬ 65536 < i := by omega
      have G : Hid (Bm wc.drew xb (.slice p1 q1 d1) P ∧ Below W.heap.size W wc.drew) := Lib.hid ⟨HM.out.1.later (Below.refl _ wc).drew, HM.out.2.drew⟩
      clear hus hul hmem hu hu1 hb hle hea hi hlen HBD HM HS HN
      go_upto_region 10 with fail
      cases b
      all_goals
        simp only [if_true, if_false, Bool.false_eq_true] at hw
        go_region_held3 (fun w => w.cell? ⟨xb, 0, none⟩ = some (.slice p1 q1 d1)) (first | exact G.out.1.cell | exact c2) (first
          | (go_at_call 16; (with_reducible refine Calls.mono (kr _ _ G.out.1.vm) ?_); rintro e z1 ⟨rfl, b⟩; replace G := Lib.hid (And.intro (G.out.1.later b) (below_on G.out.2 b)))
          | (go_at_call 16; (with_reducible refine Calls.mono (kr1 _ _ G.out.1.vm) ?_); rintro e z2 ⟨rfl, b⟩; replace G := Lib.hid (And.intro (G.out.1.later b) (below_on G.out.2 b)))
          | (go_at_call 27; (with_reducible refine Calls.mono (vspan 0 i) ?_); rintro e z3 ⟨pa, qa, da, rfl, ma, b⟩; replace G := Lib.hid (And.intro (G.out.1.later b) (below_on G.out.2 b)))
          | (go_at_call 22; (with_reducible refine Calls.mono (vand G.out.1.vm ma) ?_); rintro e z4 ⟨pb, qb, db, rfl, mb, b⟩; replace G := Lib.hid (And.intro (G.out.1.later b) (below_on G.out.2 b)))
          | (go_at_call 28; (with_reducible refine Calls.mono (ka _ _ mb) ?_); rintro e z5 ⟨rfl, b⟩; replace G := Lib.hid (And.intro (G.out.1.later b) (below_on G.out.2 b)))
          | (go_at_call 14; (with_reducible refine Calls.mono (kh _ _ G.out.1.vm) ?_); rintro e z6 ⟨rfl, b⟩; replace G := Lib.hid (And.intro (G.out.1.later b) (below_on G.out.2 b))))
        go_wp2_with fail
        go_ret
        exact ⟨rfl, G.out.2⟩
end Go.Proofs.Ytpdidlnbeahanaa
