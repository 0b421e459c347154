/- BitmapSpan: the walk. -/
import Derived.Test.YtpdidlnbeahanaaO8
import Derived.Test.YtpdidlnbeahanaaO4
import Derived.BigQuiet
namespace Go.Proofs.Ytpdidlnbeahanaa
open Go Go.RowKit Go.Shelf Go.Proofs

/-- Where BitmapSpan's loop stands. -/
structure N5 (W : World) (mb : Nat) (v : Value) (P : Int → Bool) (sv : Value) (w : World) : Prop where
  m : Bm w mb v P
  s : Ro w 0 sv (elems P)
  lo : ∀ x, P x = true → 0 ≤ x ∧ x < 200
  bel : Below W.heap.size W w
theorem N5.later {W w w' : World} {mb : Nat} {v sv : Value} {P : Int → Bool} (h : N5 W mb v P sv w) (hb : Below w.heap.size w w') : N5 W mb v P sv w' :=
  ⟨h.m.later hb, HRow.later h.s hb, h.lo, below_on h.bel hb⟩
theorem elems_small {P : Int → Bool} (h : ∀ x, P x = true → 0 ≤ x ∧ x < 200) : (elems P).length ≤ 200 := by
  have e : elems P = (rng 0 200).filter P := srt_ext (elems_srt P) ((rng_srt _ _).filter _) (fun x => by
    rw [mem_elems, List.mem_filter, mem_rng]
    constructor
    · rintro ⟨_, h2⟩
      exact ⟨h x h2, h2⟩
    · rintro ⟨h1, h2⟩
      exact ⟨⟨h1.1, by omega⟩, h2⟩)
  rw [e]
  refine Nat.le_trans (List.length_filter_le _ _) ?_
  rw [rng_len]
  omega
theorem elems_none : elems (fun _ => false) = [] := by
  refine List.eq_nil_iff_forall_not_mem.2 (fun x hx => ?_)
  have := (mem_elems.1 hx).2
  cases this
theorem elems_full {P : Int → Bool} (h : ∀ x, 0 ≤ x → x < 65536 → P x = true) : (elems P).length = 65536 := by
  have e : elems P = rng 0 65536 := List.filter_eq_self.2 (fun x hx => by
    have := mem_rng.1 hx
    exact h x this.1 this.2)
  rw [e, rng_len]
  omega
theorem elems_zero {P : Int → Bool} (h : ∀ x, 0 ≤ x → x < 65536 → P x = false) : (elems P).length = 0 := by
  rw [List.length_eq_zero_iff]
  refine List.eq_nil_iff_forall_not_mem.2 (fun x hx => ?_)
  have := mem_elems.1 hx
  rw [h x this.1.1 this.1.2] at this
  cases this.2
theorem span_full (x : Int) : spanP (-5) 1099511627776 x = true ↔ 0 ≤ x ∧ x < 65536 := by
  unfold spanP
  rw [decide_eq_true_eq]
  omega
theorem runs_full : ofL (elems (spanP (-5) 1099511627776)) = [(0, 65536)] := by
  have hn : Nrm [((0 : Int), (65536 : Int))] := Nrm.one (by omega) (by omega) (by omega)
  have hi : Is [((0 : Int), (65536 : Int))] (spanP (-5) 1099511627776) := fun x => by rw [mem_one, span_full]
  rw [← hi.els hn, ofL_els hn]
/-- What SetOf makes of a span's numbers and what was there. -/
theorem set_step {P : Int → Bool} {f t : Int} {out : List Int} (hs : out.Pairwise (· < ·)) (hm : ∀ s, s ∈ out ↔ s ∈ rng f t ++ elems P ∧ inB s = true) : out = elems (fun x => P x || spanP f t x) :=
  srt_ext hs (elems_srt _) (fun x => by
    rw [hm x, List.mem_append, mem_rng, mem_elems, mem_elems]
    unfold inB spanP
    simp only [Bool.or_eq_true, decide_eq_true_eq]
    constructor
    · rintro ⟨h1 | h1, h2⟩
      · exact ⟨h2, .inr ⟨h2.1, h2.2, h1⟩⟩
      · exact ⟨h2, .inl h1.2⟩
    · rintro ⟨h1, h2 | h2⟩
      · exact ⟨.inr ⟨h1, h2⟩, h1⟩
      · exact ⟨.inl h2.2.2, h1⟩)
theorem rng_snocz {f z : Int} (h : f ≤ z) : rng f (z + 1) = rng f z ++ [z] := by
  have e : rng z (z + 1) = [z] := by rw [rng_cons (by omega), rng_nil (by omega)]
  rw [rng_split (a := f) (b := z) (c := z + 1) h (by omega), e]
theorem Ro.beside {w : World} {b : Nat} {v u : Value} {P : Int → Bool} {base : Nat} {sv : Value} {E : List Int} (h : Ro w base sv E) (k : Bm w b v P) : Ro (w.setCell ⟨b, 0, none⟩ u) base sv E :=
  HRow.of h (fun q hq => Below.heap_setCell _ _ _ _ (fun e => by
    obtain ⟨_, cur, hh⟩ := HRow.block h q hq
    have e : q = b := e
    rw [e, k.heap] at hh
    cases hh))

/-- Where BitmapSpan's last line stands. -/
structure N6 (W : World) (mb : Nat) (v : Value) (P : Int → Bool) (sv : Value) (fb : Nat) (u : Value) (w : World) : Prop where
  m : Bm w mb v P
  s : Ro w 0 sv (elems P)
  f : Bm w fb u (spanP (-5) 1099511627776)
  bel : Below W.heap.size W w
theorem N6.later {W w w' : World} {mb fb : Nat} {v u sv : Value} {P : Int → Bool} (h : N6 W mb v P sv fb u w) (hb : Below w.heap.size w w') : N6 W mb v P sv fb u w' :=
  ⟨h.m.later hb, HRow.later h.s hb, h.f.later hb, below_on h.bel hb⟩
theorem full_in {k : Int} (h : 0 ≤ k) (h1 : k < 65536) : spanP (-5) 1099511627776 k = true := (span_full k).2 ⟨h, h1⟩
theorem full_out {k : Int} (h : ¬ (0 ≤ k ∧ k < 65536)) : spanP (-5) 1099511627776 k = false := by
  cases e : spanP (-5) 1099511627776 k
  · rfl
  · exact absurd ((span_full k).1 e) h
theorem n_full : ((elems (spanP (-5) 1099511627776)).length : Int) = 65536 := by rw [elems_full (fun x h h1 => full_in h h1)]; rfl
theorem n_not : ((elems (notP (spanP (-5) 1099511627776) 1073741824)).length : Int) = 0 := by
  rw [elems_zero (fun x h h1 => by unfold notP; rw [full_in h h1]; simp)]; rfl
theorem n_all : ((elems (notP (fun _ => false) 1073741824)).length : Int) = 65536 := by
  rw [elems_full (fun x h h1 => by unfold notP; rw [Bool.and_eq_true, decide_eq_true_eq]; exact ⟨⟨h, by omega, h1⟩, rfl⟩)]; rfl

set_option maxRecDepth 100000 in
set_option maxHeartbeats 4000000 in
theorem span_walk (px : Option Addr) (xs : List (Int × Int)) (nx cx : Nat) (k : Int) (W : World) (hbeg : Calls Try.prog 9 #[] W fun e W' => e = .returned (.bool true) ∧ Below W.heap.size W W')
    (hx : xs.length = nx) (rx : Rd2 W px xs) : Calls Try.prog 5 #[.slice px nx cx, (Value.int .i64 (k))] W fun e W' => e = .returned (.bool true) ∧ Below W.heap.size W W' := by
  have HX := Lib.hid (And.intro hx rx)
  clear hx rx
  go_enter Try.func5, Try.ntmps5
  go_upto_block 0 with (go_at_call 9; (with_reducible refine hbeg.mono ?_); rintro e w1 ⟨rfl, b1⟩; clear hbeg)
  obtain ⟨mb, hmb⟩ : ∃ mb, w1.heap.size = mb := ⟨_, rfl⟩
  obtain ⟨w2, hw2⟩ : ∃ w2, w1.alloc (.cells #[.slice none 0 0] 27) = w2 := ⟨_, rfl⟩
  have g2 := heap_alloc_new w1 (.cells #[.slice none 0 0] 27)
  have B2 := below_alloc w1 (.cells #[.slice none 0 0] 27)
  rw [hw2] at g2 B2 ⊢
  rw [hmb] at g2 ⊢
  have hWm : W.heap.size ≤ mb := by have := b1.size; omega
  have HS : Hid (N5 W mb (.slice none 0 0) (fun _ => false) (.slice none 0 0) w2) := Lib.hid ⟨(zero_vm w2).bm g2, by rw [elems_none]; exact HRow.nil, fun x h => absurd h (by decide), below_on b1 B2⟩
  clear g2 B2 hw2 b1 hmb
  go_cut [7] from 300 to 300 (fun sv w => ∃ p n c P ps ns cs, sv = .slice ps ns cs ∧ (elems P).length = ns ∧ N5 W mb (.slice p n c) P sv w)
  case first =>
    go_wp2_with fail
    go_loopg [7, 8] 9 (fun gh sv iv w => ∃ (i : Nat) (p : Option Addr) (n c : Nat) (P : Int → Bool), iv = .int .i64 (i : Int) ∧ i ≤ 8 ∧ 9 ≤ i + gh ∧ N5 W mb (.slice p n c) P sv w)
    case atStart => exact ⟨0, _, _, _, _, rfl, by omega, by omega, HS.out⟩
    case round =>
      obtain ⟨i, p, n, c, P, rfl, hi, hg, hM⟩ := hrel
      obtain ⟨ps, cs, rfl, _, _⟩ := HRow.isslice hM.s
      have HM := Lib.hid hM
      obtain ⟨ns, hns⟩ : ∃ ns, (elems P).length = ns := ⟨_, rfl⟩
      have HNS := Lib.hid hns
      rw [hns]
      by_cases hlt : i < nx ∧ i < 8
      · obtain ⟨h1, h2⟩ := hlt
        have h2' : (i : Int) < 8 := by omega
        obtain ⟨b, off, rfl, hbW, c0, c1⟩ := (HX.out.2.later hM.bel) i (by rw [HX.out.1]; exact h1)
        obtain ⟨x, hx⟩ : ∃ x, xs[i]'(by rw [HX.out.1]; exact h1) = x := ⟨_, rfl⟩
        rw [hx] at c0 c1
        clear hx
        obtain ⟨f, t⟩ := x
        have c0 : ∀ q, (wr.drewN q).cell? ⟨b, off + i * 2, none⟩ = some (Value.int .i64 (f)) := fun q => c0
        have c1 : ∀ q, (wr.drewN q).cell? ⟨b, off + i * 2 + 1, none⟩ = some (Value.int .i64 (t)) := fun q => c1
        by_cases hcont : 200 < t ∨ f < -100
        · clear hM hns
          have hc2 : 200 < t ∨ (¬ 200 < t ∧ f < -100) := by omega
          clear hcont
          rcases hc2 with hc2 | ⟨hc2, hc3⟩
          all_goals
            go_wp2_with fail
            go_quiet (fail)
            go_wp2_with fail
            go_roundg (8 - i)
            case measure => omega
            case rel =>
              have h := HM.out.later (below_drewN wr nq)
              rw [HNS.out] at h
              exact ⟨i + 1, p, n, c, P, by go_num, by omega, by omega, h⟩
        · have ht : ¬ 200 < t := by omega
          have hf : ¬ f < -100 := by omega
          clear hcont hM hns
          go_wp2_with fail
          go_quiet (fail)
          obtain ⟨w5, hw5⟩ : ∃ w5, wr.drewN nq = w5 := ⟨_, rfl⟩
          have HM5 : Hid (N5 W mb (.slice p n c) P (.slice ps ns cs) w5) := Lib.hid (by
            have h := HM.out.later (below_drewN wr nq)
            rw [HNS.out, hw5] at h
            exact h)
          rw [hw5]
          clear hw5 c0 c1
          have hs := vspan (W := w5.drew) f t
          have m0 := HM5.out.m.cell
          have hlo := HM5.out.lo
          have hns2 : ns ≤ 200 := by rw [← HNS.out]; exact elems_small hlo
          have HLO := Lib.hid hlo
          clear hlo
          go_upto_region 11 with fail
          go_region_law (first
            | (refine step_call ent27 [(Value.int .i64 (f)), (Value.int .i64 (t))] (by simp [Act.eval, Act.put]) ?_; (with_reducible refine Calls.mono hs ?_); rintro e y1 ⟨p1, q1, d1, rfl, v1, b1⟩; have M1 := HM5.out.later ((Below.refl _ w5).drew.trans b1); have m1 := M1.m.cell; have hor := vor M1.m.vm v1; refine ⟨_, rfl, ?_⟩)
            | (refine step_call ent23 [.agg #[.slice p n c], .agg #[.slice p1 q1 d1]] (by simp [Act.eval]) ?_; (with_reducible refine Calls.mono hor ?_); rintro e y2 ⟨p2, q2, d2, rfl, v2, b2⟩; have M2 := M1.later b2; have m2 := M2.m.cell; have f2 := M2.m.frz 0; have HE := Lib.hid (And.intro M2 v2); refine ⟨_, rfl, ?_⟩))
          all_goals
            obtain ⟨w6, hw6⟩ : ∃ w6, y2.setCell ⟨mb, 0, none⟩ (.slice p2 q2 d2) = w6 := ⟨_, rfl⟩
            have H6 : Hid (Bm w6 mb (.slice p2 q2 d2) (fun x => P x || spanP f t x) ∧ Ro w6 0 (.slice ps ns cs) (elems P) ∧ Below W.heap.size W w6) := Lib.hid (by
              have e := HE.out
              rw [← hw6]
              exact ⟨e.1.m.put e.2, e.1.s.beside e.1.m, e.1.bel.setCell hWm _⟩)
            rw [hw6]
            clear hw6 HE f2 m2 M2 hor m1 M1 m0 hs v1 v2 b1 b2 HM5
            obtain ⟨S, hS⟩ : ∃ S, w6.heap.size = S := ⟨_, rfl⟩
            have HSS := Lib.hid hS
            clear hS
            go_wp2_with fail
            go_loopg [11, 12] ((t - f).toNat + 1) (fun gh ov kv w => ∃ (z : Int) (out : List Int), kv = .int .i64 z ∧ f ≤ z ∧ (z ≤ t ∨ z = f) ∧ (t - z).toNat + 1 ≤ gh ∧ out = rng f z ∧ Ro w S ov out ∧ Below S w6 w)
            case atStart => exact ⟨f, [], rfl, Int.le_refl _, .inr rfl, Nat.le_refl _, (rng_nil (Int.le_refl _)).symm, HRow.nil, Below.refl _ _⟩
            case round =>
              obtain ⟨z, out, rfl, hz, hzt, hgz, hout, hR, hbw⟩ := hrel
              obtain ⟨m, hm⟩ : ∃ m, out.length = m := ⟨_, rfl⟩
              obtain ⟨pl, cl, rfl, _, _⟩ := HRow.isslice hR
              have hml : m ≤ 300 := by rw [← hm, hout, rng_len]; omega
              have hSw : S ≤ wr.heap.size := by have := hbw.size; have := HSS.out; omega
              have hR2 : Ro wr S (.slice pl m cl) out := by rw [← hm]; exact hR
              have HO := Lib.hid (And.intro hout (And.intro hm hbw))
              rw [hm]
              clear hR hout hbw hm
              by_cases hzl : z < t
              · obtain ⟨g, cap', w7, hrun, r7, g7, own⟩ := app_int 22 Try.underlying22 wr S HO.out.2.1 hR2 (by omega) hSw z
                have HR := Lib.hid (And.intro r7 (below_row hR2 g7 (Nat.le_refl _) hSw))
                have hwz : IntKind.i64.wrap (z + 1) = z + 1 := Go.IntWalk.i64_in _ (by omega)
                clear r7 g7 own hR2
                go_wp2_with (at_builtin; refine wpList_append_run rfl (.tmp 54) (.tmp 56) 22 rfl rfl rfl hrun ?_)
                go_roundg (t - z).toNat
                case measure => omega
                case rel => exact ⟨z + 1, out ++ [z], by first | rfl | go_num, by omega, .inl (by omega), by omega, by rw [HO.out.1, rng_snocz hz], HR.out.1, HO.out.2.2.trans HR.out.2⟩
              · have hrt : ∀ x, x ∈ rng f z ↔ x ∈ rng f t := fun x => by rw [mem_rng, mem_rng]; omega
                have hE := HRow.later H6.out.2.1 (w' := wr) (by rw [HSS.out]; exact HO.out.2.2)
                have hErd : Rd wr ps (elems P) := Ro.rd (base := 0) (cap := cs) (by rw [HNS.out]; exact hE)
                obtain ⟨p', c', w8, hrun, r8, g8⟩ := app_all (d := cs) Try.underlying29 wr S HO.out.2.1 hR2 HNS.out hErd (by omega) hSw
                have B8 := below_row hR2 g8 (Nat.le_refl _) hSw
                have hlen : (out ++ elems P).length = m + ns := by rw [List.length_append, HO.out.2.1, HNS.out]
                have hset := setof_any (out ++ elems P) p' (m + ns) c' w8 hlen (by omega) (Ro.rd (base := S) (cap := c') (by rw [hlen]; exact r8))
                have HR := Lib.hid (And.intro hrt (HO.out.2.2.trans B8))
                clear hrt hE hErd r8 g8 B8 hlen hR2
                go_wp2_with (first
                  | (at_builtin; refine wpList_append_run2 rfl (.tmp 58) (.tmp 59) 22 29 rfl rfl rfl hrun ?_)
                  | (go_at_call 12; (with_reducible refine hset.mono ?_); rintro e w9 ⟨out2, v9, hso, hmem, hlen2, rfl, r9, b9⟩; clear hset; have HF := Lib.hid (And.intro hso (And.intro hmem (And.intro r9 b9))); clear hso hmem hlen2 r9 b9))
                go_roundg (8 - i)
                case measure => omega
                case rel =>
                  have e := HF.out
                  have hb69 : Below w6.heap.size w6 w9 := (by rw [HSS.out]; exact HR.out.2 : Below w6.heap.size w6 w8).trans (e.2.2.2.mono (by have := HR.out.2.size; exact this))
                  have hst : out2 = elems (fun x => P x || spanP f t x) := set_step e.1 (fun x => by
                    rw [e.2.1 x, List.mem_append, List.mem_append, HO.out.1, HR.out.1 x])
                  exact ⟨i + 1, p2, q2, d2, fun x => P x || spanP f t x, by go_num, by omega, by omega, H6.out.1.later hb69, by
                    rw [← hst]
                    exact HRow.mono e.2.2.1 (Nat.zero_le _), fun x hx => by
                    have hx2 : P x = true ∨ spanP f t x = true := by simpa only [Bool.or_eq_true] using hx
                    rcases hx2 with h | h
                    · exact HLO.out x h
                    · have := of_decide_eq_true h
                      omega, below_on H6.out.2.2 hb69⟩
      · have hex : ¬ i < nx ∨ (i < nx ∧ ¬ i < 8) := by omega
        clear hlt hM hns
        rcases hex with hex | ⟨hex, hex'⟩
        all_goals
          go_wp2_with fail
          go_meet
          have h := HM.out
          rw [HNS.out] at h
          exact ⟨p, n, c, P, ps, ns, cs, rfl, HNS.out, h⟩
  case rest =>
    clear HS HX
    obtain ⟨p, n, c, P, ps, ns, cs, rfl, hns, hM⟩ := hcut
    have HM := Lib.hid (And.intro hM hns)
    have hs := vspan (W := wc) (-5) 1099511627776
    clear hM hns
    go_upto_region 19 with (go_at_call 27; (with_reducible refine Calls.mono hs ?_); rintro e w3 ⟨p1, q1, d1, rfl, v1, b1⟩; clear hs)
    have g1 := heap_alloc_new w3 (.cells #[.slice p1 q1 d1] 27)
    have B4 := below_alloc w3 (.cells #[.slice p1 q1 d1] 27)
    obtain ⟨fb, hfb⟩ : ∃ fb, w3.heap.size = fb := ⟨_, rfl⟩
    obtain ⟨y, hyw⟩ : ∃ y, w3.alloc (.cells #[.slice p1 q1 d1] 27) = y := ⟨_, rfl⟩
    rw [hyw, hfb]
    rw [hyw] at g1 B4
    have hF := (v1.later B4).bm g1
    rw [hfb] at hF
    have B5 := below_on b1 B4
    have h5 := HM.out.1.later B5
    have G : Hid (N6 W mb (.slice p n c) P (.slice ps ns cs) fb (.slice p1 q1 d1) y) := Lib.hid ⟨h5.m, h5.s, hF, h5.bel⟩
    have HNS := Lib.hid HM.out.2
    clear g1 B4 hfb hyw hF B5 h5 v1 b1 HM
    have k0 := G.out.m.cell
    have h13 := fun y (h : N6 W mb (.slice p n c) P (.slice ps ns cs) fb (.slice p1 q1 d1) y) => same_any (elems P) ps ns cs y HNS.out rfl h.m.vm (Ro.rd (base := 0) (cap := cs) (by rw [HNS.out]; exact h.s))
    have h28 := fun y v (h : Vm y v (spanP (-5) 1099511627776)) => vcount h
    rw [n_full] at h28
    have h280 := fun y v (h : Vm y v (notP (spanP (-5) 1099511627776) 1073741824)) => vcount h
    rw [n_not] at h280
    have h286 := fun y v (h : Vm y v (notP (fun _ => false) 1073741824)) => vcount h
    rw [n_all] at h286
    have h29 := fun y v (h : Vm y v (spanP (-5) 1099511627776)) => vruns h
    rw [runs_full] at h29
    have h14 := fun y v (h : Vm y v (spanP (-5) 1099511627776)) => vhas h k
    have hk3 : (¬ 0 ≤ k ∧ spanP (-5) 1099511627776 k = false) ∨ (0 ≤ k ∧ k ≤ 65535 ∧ spanP (-5) 1099511627776 k = true) ∨ (0 ≤ k ∧ ¬ k ≤ 65535 ∧ spanP (-5) 1099511627776 k = false) := by
      by_cases h0 : 0 ≤ k
      · by_cases h1 : k ≤ 65535
        · exact .inr (.inl ⟨h0, h1, full_in h0 (by omega)⟩)
        · exact .inr (.inr ⟨h0, h1, full_out (by omega)⟩)
      · exact .inl ⟨h0, full_out (by omega)⟩
    rcases hk3 with ⟨hk0, hb⟩ | ⟨hk0, hk1, hb⟩ | ⟨hk0, hk1, hb⟩
    all_goals
      rw [hb] at h14
      clear hb
      try (have e1 : decide (k ≤ 65535) = false := decide_eq_false hk1)
      go_wp2_with (first
        | (go_at_call 13; (with_reducible refine Calls.mono (h13 _ G.out) ?_); rintro e z1 ⟨rfl, b⟩; clear h13; replace G := Lib.hid (G.out.later b); have k1 := G.out.f.cell; clear b)
        | (go_at_call 28; (with_reducible refine Calls.mono (h28 _ _ G.out.f.vm) ?_); rintro e z2 ⟨rfl, b⟩; clear h28; replace G := Lib.hid (G.out.later b); have k2 := G.out.f.cell; clear b)
        | (go_at_call 29; (with_reducible refine Calls.mono (h29 _ _ G.out.f.vm) ?_); rintro e z3 ⟨va, rfl, ra, b⟩; clear h29; obtain ⟨pr, cr, rfl, _, _⟩ := HRow.isslice ra; replace G := Lib.hid (G.out.later b); have k3 := G.out.f.cell; clear b ra)
        | (go_at_call 26; (with_reducible refine Calls.mono (vnot G.out.f.vm 1073741824) ?_); rintro e z4 ⟨pa, qa, da, rfl, ma, b⟩; replace G := Lib.hid (G.out.later b); have k4 := G.out.f.cell; clear b)
        | (go_at_call 28; (with_reducible refine Calls.mono (h280 _ _ ma) ?_); rintro e z5 ⟨rfl, b⟩; clear h280 ma; replace G := Lib.hid (G.out.later b); have k5 := G.out.f.cell; clear b)
        | (go_at_call 26; (with_reducible refine Calls.mono (vnot (zero_vm _) 1073741824) ?_); rintro e z6 ⟨pe, qe, de, rfl, me, b⟩; replace G := Lib.hid (G.out.later b); have k6 := G.out.f.cell; clear b)
        | (go_at_call 28; (with_reducible refine Calls.mono (h286 _ _ me) ?_); rintro e z7 ⟨rfl, b⟩; clear h286 me; replace G := Lib.hid (G.out.later b); have k7 := G.out.f.cell; clear b)
        | (go_at_call 14; (with_reducible refine Calls.mono (h14 _ _ G.out.f.vm) ?_); rintro e z8 ⟨rfl, b⟩; clear h14; replace G := Lib.hid (G.out.later b); clear b))
      go_ret
      first
        | exact ⟨rfl, G.out.bel⟩
        | exact ⟨by show Ending.returned (.bool (!decide (k ≤ 65535))) = _; rw [decide_eq_false hk1]; rfl, G.out.bel⟩
end Go.Proofs.Ytpdidlnbeahanaa
