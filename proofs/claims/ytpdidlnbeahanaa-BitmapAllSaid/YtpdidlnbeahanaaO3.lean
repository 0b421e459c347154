/- BitmapAll: the walk. -/
import Derived.Test.YtpdidlnbeahanaaO8
import Derived.Test.YtpdidlnbeahanaaO4
namespace Go.Proofs.Ytpdidlnbeahanaa
open Go Go.RowKit Go.Shelf Go.Proofs

/-- BitmapAll's four variables. -/
structure N3 (W : World) (xb yb : Nat) (vx vy : Value) (P Q : Int → Bool) (sv tv : Value) (w : World) : Prop where
  x : Bm w xb vx P
  y : Bm w yb vy Q
  s : Ro w 0 sv (elems P)
  t : Ro w 0 tv (elems Q)
  bel : Below W.heap.size W w
theorem N3.later {W w w' : World} {xb yb : Nat} {vx vy sv tv : Value} {P Q : Int → Bool} (h : N3 W xb yb vx vy P Q sv tv w) (hb : Below w.heap.size w w') : N3 W xb yb vx vy P Q sv tv w' :=
  ⟨h.x.later hb, h.y.later hb, HRow.later h.s hb, HRow.later h.t hb, below_on h.bel hb⟩
/-- And the three rows of what mix tells. -/
structure K3 (W : World) (xb yb : Nat) (vx vy : Value) (P Q : Int → Bool) (sv tv av ov uv : Value) (w : World) : Prop where
  l : N3 W xb yb vx vy P Q sv tv w
  a : Ro w 0 av (elems fun x => P x && Q x)
  o : Ro w 0 ov (elems fun x => P x || Q x)
  u : Ro w 0 uv (elems (outP P Q))
theorem K3.later {W w w' : World} {xb yb : Nat} {vx vy sv tv av ov uv : Value} {P Q : Int → Bool} (h : K3 W xb yb vx vy P Q sv tv av ov uv w) (hb : Below w.heap.size w w') : K3 W xb yb vx vy P Q sv tv av ov uv w' :=
  ⟨h.l.later hb, HRow.later h.a hb, HRow.later h.o hb, HRow.later h.u hb⟩
theorem set_elems {X out : List Int} (hs : out.Pairwise (· < ·)) (hm : ∀ s, s ∈ out ↔ s ∈ X ∧ inB s = true) : out = elems (ofP X) :=
  srt_ext hs (elems_srt _) (fun x => by
    rw [hm x, mem_elems]
    unfold ofP inB
    simp only [Bool.and_eq_true, decide_eq_true_eq]
    exact ⟨fun h => ⟨h.2, h⟩, fun h => h.2⟩)
theorem mix_elems {P Q : Int → Bool} {r : Bool → Bool → Bool} (hr : r false false = false) (hP : ∀ x, P x = true → 0 ≤ x ∧ x < 65536) (hQ : ∀ x, Q x = true → 0 ≤ x ∧ x < 65536) {out : List Int} (hs : out.Pairwise (· < ·))
    (hm : ∀ s, s ∈ out ↔ (s ∈ elems P ∨ s ∈ elems Q) ∧ r (decide (s ∈ elems P)) (decide (s ∈ elems Q)) = true) : out = elems (fun x => r (P x) (Q x)) :=
  srt_ext hs (elems_srt _) (fun x => by
    have e1 : decide (x ∈ elems P) = P x := by
      rw [Bool.eq_iff_iff, decide_eq_true_eq, mem_elems]
      exact ⟨fun h => h.2, fun h => ⟨hP x h, h⟩⟩
    have e2 : decide (x ∈ elems Q) = Q x := by
      rw [Bool.eq_iff_iff, decide_eq_true_eq, mem_elems]
      exact ⟨fun h => h.2, fun h => ⟨hQ x h, h⟩⟩
    rw [hm x, e1, e2, mem_elems, mem_elems, mem_elems]
    constructor
    · rintro ⟨h1 | h1, h2⟩
      · exact ⟨h1.1, h2⟩
      · exact ⟨h1.1, h2⟩
    · rintro ⟨h1, h2⟩
      refine ⟨?_, h2⟩
      cases hp : P x
      · cases hq : Q x
        · rw [hp, hq, hr] at h2; cases h2
        · exact .inr ⟨h1, rfl⟩
      · exact .inl ⟨h1, rfl⟩)
theorem same_len {P Q : Int → Bool} (hP : ∀ x, P x = true → 0 ≤ x ∧ x < 65536) (hQ : ∀ x, Q x = true → 0 ≤ x ∧ x < 65536) :
    (elems fun x => P x || Q x).length = (elems fun x => P x && Q x).length ↔ ∀ x, P x = Q x := by
  have e : (elems fun x => P x && Q x) = (elems fun x => P x || Q x).filter (fun x => P x && Q x) := by
    unfold elems
    rw [List.filter_filter]
    congr 1
    funext x
    cases P x <;> cases Q x <;> rfl
  constructor
  · intro h x
    rw [e] at h
    have hall := List.length_filter_eq_length_iff.1 h.symm
    have hx : ∀ x, (P x || Q x) = true → 0 ≤ x ∧ x < 65536 := fun x h => by
      have h2 : P x = true ∨ Q x = true := by simpa only [Bool.or_eq_true] using h
      rcases h2 with h | h
      · exact hP x h
      · exact hQ x h
    cases hp : P x
    · cases hq : Q x
      · rfl
      · have h2 := hall x (mem_elems.2 ⟨hx x (by rw [hp, hq]; rfl), by rw [hp, hq]; rfl⟩)
        rw [hp, hq] at h2
        cases h2
    · cases hq : Q x
      · have h2 := hall x (mem_elems.2 ⟨hx x (by rw [hp, hq]; rfl), by rw [hp, hq]; rfl⟩)
        rw [hp, hq] at h2
        cases h2
      · rfl
  · intro h
    have e2 : P = Q := funext h
    have e3 : (fun x => Q x || Q x) = fun x => Q x && Q x := by
      funext x
      cases Q x <;> rfl
    rw [e2, e3]
theorem under_take {xs : List Int} {i : Nat} (hi : i < xs.length) (k : Int) : under (xs.take (i + 1)) k = under (xs.take i) k + if xs[i] < k then 1 else 0 := by
  unfold under
  rw [List.take_succ_eq_append_getElem hi, List.filter_append, List.length_append]
  congr 1
  by_cases h : xs[i] < k <;> simp [h]

theorem N3.rs {W w : World} {xb yb : Nat} {vx vy tv : Value} {P Q : Int → Bool} {ps : Option Addr} {ns cs : Nat} (h : N3 W xb yb vx vy P Q (.slice ps ns cs) tv w) (hn : (elems P).length = ns) : Rd w ps (elems P) := Ro.rd (base := 0) (cap := cs) (by rw [hn]; exact h.s)
theorem N3.rt {W w : World} {xb yb : Nat} {vx vy sv : Value} {P Q : Int → Bool} {pt : Option Addr} {nt ct : Nat} (h : N3 W xb yb vx vy P Q sv (.slice pt nt ct) w) (hn : (elems Q).length = nt) : Rd w pt (elems Q) := Ro.rd (base := 0) (cap := ct) (by rw [hn]; exact h.t)
/-- The answer is a row of a set's numbers. -/
def RowOf (E : List Int) (W : World) (e : Ending) (w' : World) : Prop := ∃ p n c, e = .returned (.slice p n c) ∧ E.length = n ∧ Ro w' 0 (.slice p n c) E ∧ Below W.heap.size W w'
theorem MixR.row {P Q : Int → Bool} {r : Bool → Bool → Bool} (hr : r false false = false) (hP : ∀ x, P x = true → 0 ≤ x ∧ x < 65536) (hQ : ∀ x, Q x = true → 0 ≤ x ∧ x < 65536) {W w' : World} {e : Ending}
    (h : MixR r (elems P) (elems Q) W e w') : RowOf (elems fun x => r (P x) (Q x)) W e w' := by
  obtain ⟨out, v, hs, hm, he, hR, hb⟩ := h
  have eo := mix_elems hr hP hQ hs hm
  obtain ⟨p, c, rfl, _, _⟩ := HRow.isslice hR
  exact ⟨p, out.length, c, he, by rw [← eo], by rw [← eo]; exact hR, hb⟩
theorem inB_elems (P : Int → Bool) : ∀ x ∈ elems P, inB x = true := fun x hx => by
  have := (mem_elems.1 hx).1
  exact decide_eq_true this

set_option maxRecDepth 100000 in
set_option maxHeartbeats 4000000 in
theorem all_walk (px py : Option Addr) (xs ys : List Int) (nx cx ny cy : Nat) (k : Int) (W : World) (hbeg : Calls Try.prog 9 #[] W fun e W' => e = .returned (.bool true) ∧ Below W.heap.size W W')
    (hx : xs.length = nx) (hy : ys.length = ny) (rx : Rd W px xs) (ry : Rd W py ys) (kx : nx ≤ cx ∧ cx ≤ maxLen) (ky : ny ≤ cy ∧ cy ≤ maxLen) (hk : -9223372036854775808 ≤ k ∧ k ≤ 9223372036854775807) :
    Calls Try.prog 3 #[.slice px nx cx, .slice py ny cy, (Value.int .i64 (k))] W fun e W' => e = .returned (.bool true) ∧ Below W.heap.size W W' := by
  have cutx := cut_any px nx cx kx.1 kx.2
  have cuty := cut_any py ny cy ky.1 ky.2
  obtain ⟨mx, hmx⟩ : ∃ m, min nx 60 = m := ⟨_, rfl⟩
  obtain ⟨my, hmy⟩ : ∃ m, min ny 60 = m := ⟨_, rfl⟩
  rw [hmx] at cutx
  rw [hmy] at cuty
  have hlx : (xs.take 60).length = mx := by rw [List.length_take]; omega
  have hly : (ys.take 60).length = my := by rw [List.length_take]; omega
  have rx' := rx.cut
  have ry' := ry.cut
  generalize xs.take 60 = X at hlx rx'
  generalize ys.take 60 = Y at hly ry'
  have hmx60 : mx ≤ 60 := by omega
  have hmy60 : my ≤ 60 := by omega
  have ofx := fun y (hb : Below W.heap.size W y) => vof (W := y) (xs := X) (n := mx) (c := cx) hlx (by omega) (rx'.later hb)
  have ofy := fun y (hb : Below W.heap.size W y) => vof (W := y) (xs := Y) (n := my) (c := cy) hly (by omega) (ry'.later hb)
  have stx := fun y (hb : Below W.heap.size W y) => setof_any X px mx cx y hlx (by omega) (rx'.later hb)
  have sty := fun y (hb : Below W.heap.size W y) => setof_any Y py my cy y hly (by omega) (ry'.later hb)
  clear hx hy rx ry kx ky hmx hmy rx' ry'
  have HXY := Lib.hid (And.intro hlx hly)
  clear hlx hly
  go_enter Try.func3, Try.ntmps3
  go_upto_region 6 with (first
    | (go_at_call 9; (with_reducible refine hbeg.mono ?_); rintro e w1 ⟨rfl, b1⟩; clear hbeg)
    | (go_at_call 10; (with_reducible refine (cutx _).mono ?_); rintro e w2 ⟨rfl, hw2⟩; subst w2; clear cutx)
    | (go_at_call 10; (with_reducible refine (cuty _).mono ?_); rintro e w4 ⟨rfl, hw2⟩; subst w4; clear cuty)
    | (go_at_call 11; (with_reducible refine (ofx _ b1).mono ?_); rintro e w3 ⟨p1, q1, d1, rfl, m1, b2⟩; have b3 := below_on b1 b2; clear ofx b2 b1)
    | (go_at_call 11; (with_reducible refine (ofy _ b3).mono ?_); rintro e w5 ⟨p2, q2, d2, rfl, m2, b4⟩; have m1 := m1.later b4; have b5 := below_on b3 b4; clear ofy b3 b4))
  obtain ⟨xb, hxb⟩ : ∃ xb, w5.heap.size = xb := ⟨_, rfl⟩
  obtain ⟨y, hyw⟩ : ∃ y, (w5.alloc (.cells #[.slice p1 q1 d1] 27)).alloc (.cells #[.slice p2 q2 d2] 27) = y := ⟨_, rfl⟩
  have g1 := heap_alloc_new w5 (.cells #[.slice p1 q1 d1] 27)
  have g2 := heap_alloc_new (w5.alloc (.cells #[.slice p1 q1 d1] 27)) (.cells #[.slice p2 q2 d2] 27)
  rw [World.size_alloc] at g2
  have hy1 : y.heap[w5.heap.size]? = some (.cells #[.slice p1 q1 d1] 27) := by rw [← hyw]; exact (Below.heap_alloc _ _ _ (by simp)).trans g1
  have hy2 : y.heap[w5.heap.size + 1]? = some (.cells #[.slice p2 q2 d2] 27) := by rw [← hyw]; exact g2
  have h5y : Below w5.heap.size w5 y := by rw [← hyw]; exact (below_alloc w5 _).alloc (by simp) _
  have HB := Lib.hid (And.intro ((m1.later h5y).bm hy1) ((m2.later h5y).bm hy2))
  have b6 := below_on b5 h5y
  rw [hyw, hxb]
  rw [hxb] at HB
  clear m1 m2 b5 g1 g2 hy1 hy2 h5y hyw hxb
  obtain ⟨yb, hyb⟩ : ∃ yb, xb + 1 = yb := ⟨_, rfl⟩
  rw [hyb] at HB ⊢
  clear hyb
  go_upto_block 0 with (first
    | (go_at_call 12; (with_reducible refine (stx _ b6).mono ?_); rintro e y1 ⟨S, sv, hso, hmem, hlen, rfl, r1, b⟩; clear stx; have H1 := Lib.hid (And.intro hso (And.intro hmem (And.intro hlen (And.intro r1 b)))); have b7 := below_on b6 b; clear hso hmem hlen r1 b)
    | (go_at_call 12; (with_reducible refine (sty _ b7).mono ?_); rintro e y2 ⟨T, tv, hso, hmem, hlen, rfl, r1, b⟩; clear sty; have H2 := Lib.hid (And.intro hso (And.intro hmem (And.intro hlen (And.intro r1 b)))); clear hso hmem hlen r1 b))
  have eS := set_elems H1.out.1 H1.out.2.1
  have eT := set_elems H2.out.1 H2.out.2.1
  have hS60 : S.length ≤ 60 := by have := H1.out.2.2.1; have := HXY.out.1; omega
  have hT60 : T.length ≤ 60 := by have := H2.out.2.2.1; have := HXY.out.2; omega
  subst eS
  subst eT
  have bb := below_on H1.out.2.2.2.2 H2.out.2.2.2.2
  have HL : Hid (N3 W xb yb (.slice p1 q1 d1) (.slice p2 q2 d2) (ofP X) (ofP Y) sv tv y2) := Lib.hid ⟨HB.out.1.later bb, HB.out.2.later bb, HRow.mono (HRow.later H1.out.2.2.2.1 H2.out.2.2.2.2) (Nat.zero_le _), HRow.mono H2.out.2.2.2.1 (Nat.zero_le _), below_on b6 bb⟩
  clear H1 H2 bb HB b6 b7
  generalize ofP X = P at HL hS60
  generalize ofP Y = Q at HL hT60
  obtain ⟨ps, cs, rfl, _, _⟩ := HRow.isslice HL.out.s
  obtain ⟨pt, ct, rfl, _, _⟩ := HRow.isslice HL.out.t
  obtain ⟨ns, hns⟩ : ∃ ns, (elems P).length = ns := ⟨_, rfl⟩
  obtain ⟨nt, hnt⟩ : ∃ nt, (elems Q).length = nt := ⟨_, rfl⟩
  rw [hns] at hS60
  rw [hnt] at hT60
  rw [hns, hnt] at HL
  rw [hns, hnt]
  have HN := Lib.hid (And.intro hns hnt)
  clear hns hnt HXY
  go_cut [12] from 32 to 45 (fun bv w => bv = .int .i64 (under (elems P) k : Int) ∧ N3 W xb yb (.slice p1 q1 d1) (.slice p2 q2 d2) P Q (.slice ps ns cs) (.slice pt nt ct) w)
  case first =>
    go_wp2_with fail
    go_loopg [12, 13] (ns + 1) (fun gh bv iv w => ∃ i : Nat, iv = .int .i64 (i : Int) ∧ i ≤ ns ∧ ns + 1 ≤ i + gh ∧ bv = .int .i64 (under ((elems P).take i) k : Int) ∧ w = y2)
    case atStart => exact ⟨0, rfl, Nat.zero_le _, by omega, rfl, rfl⟩
    case round =>
      obtain ⟨i, rfl, hi, hg, rfl, rfl⟩ := hrel
      by_cases hlt : i < ns
      · have hie : i < (elems P).length := by rw [HN.out.1]; exact hlt
        obtain ⟨b, off, hps, _, c0⟩ := (HL.out.rs HN.out.1) i hie
        have hu := under_take hie k
        have hul : under ((elems P).take i) k ≤ i := Nat.le_trans (List.length_filter_le _ _) (by rw [List.length_take]; omega)
        obtain ⟨x, hx⟩ : ∃ x, (elems P)[i] = x := ⟨_, rfl⟩
        obtain ⟨u, hue⟩ : ∃ u, under ((elems P).take i) k = u := ⟨_, rfl⟩
        rw [hx] at c0 hu
        rw [hue] at hu hul ⊢
        have HU := Lib.hid hu
        have HPS := Lib.hid hps
        subst hps
        clear hx hue hu hie
        by_cases hxk : x < k
        · go_wp2_with fail
          go_roundg (ns - i)
          case measure => omega
          case rel => exact ⟨i + 1, by go_num, by omega, by omega, by rw [HU.out, if_pos hxk]; go_num, rfl⟩
        · go_wp2_with fail
          go_roundg (ns - i)
          case measure => omega
          case rel => exact ⟨i + 1, by go_num, by omega, by omega, by rw [HU.out, if_neg (by omega)]; rfl, rfl⟩
      · have e : (elems P).take i = elems P := List.take_of_length_le (by rw [HN.out.1]; omega)
        rw [e]
        clear e
        go_wp2_with fail
        go_meet
        exact ⟨rfl, HL.out⟩
  case rest =>
    obtain ⟨rfl, hL⟩ := hcut
    have G := Lib.hid hL
    have kx := hL.x.cell
    have hPb := hL.x.vm.bd
    have hQb := hL.y.vm.bd
    clear hL HL
    have h13 := fun y (h : N3 W xb yb (.slice p1 q1 d1) (.slice p2 q2 d2) P Q (.slice ps ns cs) (.slice pt nt ct) y) => same_any (elems P) ps ns cs y HN.out.1 rfl h.x.vm (h.rs HN.out.1)
    have h13t := fun y (h : N3 W xb yb (.slice p1 q1 d1) (.slice p2 q2 d2) P Q (.slice ps ns cs) (.slice pt nt ct) y) => same_any (elems Q) pt nt ct y HN.out.2 rfl h.y.vm (h.rt HN.out.2)
    have h14 := fun y (h : Vm y (.slice p1 q1 d1) P) => vhas h k
    have h15 := fun y (h : N3 W xb yb (.slice p1 q1 d1) (.slice p2 q2 d2) P Q (.slice ps ns cs) (.slice pt nt ct) y) => sethas_any (elems P) ps ns cs y HN.out.1 (by omega) (h.rs HN.out.1) k (P k) (by
      rw [mem_elems]
      exact ⟨fun h => ⟨hPb k h, h⟩, fun h => h.2⟩)
    have h16 := fun y (h : Vm y (.slice p1 q1 d1) P) => vrank h k hk
    have h17 := fun y (h : Vm y (.slice p1 q1 d1) P) => vsel h (-1) (by omega)
    rw [sel_no (.inl (by omega))] at h17
    have h17n := fun y (h : Vm y (.slice p1 q1 d1) P) => vsel h (ns : Int) (by omega)
    rw [sel_no (.inr (by rw [HN.out.1]; omega))] at h17n
    have h19 := fun y (h : N3 W xb yb (.slice p1 q1 d1) (.slice p2 q2 d2) P Q (.slice ps ns cs) (.slice pt nt ct) y) => (mix19 (elems P) (elems Q) ps pt ns nt cs ct y HN.out.1 HN.out.2 (by omega) (by omega) (h.rs HN.out.1) (h.rt HN.out.2) (inB_elems P) (inB_elems Q)).mono fun _ _ h => MixR.row rfl hPb hQb h
    have h20 := fun y (h : N3 W xb yb (.slice p1 q1 d1) (.slice p2 q2 d2) P Q (.slice ps ns cs) (.slice pt nt ct) y) => (mix20 (elems P) (elems Q) ps pt ns nt cs ct y HN.out.1 HN.out.2 (by omega) (by omega) (h.rs HN.out.1) (h.rt HN.out.2) (inB_elems P) (inB_elems Q)).mono fun _ _ h => MixR.row rfl hPb hQb h
    have h21 := fun y (h : N3 W xb yb (.slice p1 q1 d1) (.slice p2 q2 d2) P Q (.slice ps ns cs) (.slice pt nt ct) y) => (mix21 (elems P) (elems Q) ps pt ns nt cs ct y HN.out.1 HN.out.2 (by omega) (by omega) (h.rs HN.out.1) (h.rt HN.out.2) (inB_elems P) (inB_elems Q)).mono fun _ _ h => MixR.row rfl hPb hQb h
    have hsame := same_len hPb hQb
    have HSM := Lib.hid hsame
    generalize P k = pk at h14 h15
    generalize under (elems P) k = uk at h16 ⊢
    clear hPb hQb hsame
    go_upto_region 18 with (first
      | (go_at_call 13; (with_reducible refine Calls.mono (h13 _ G.out) ?_); rintro e z1 ⟨rfl, b⟩; replace G := Lib.hid (G.out.later b); have kx1 := G.out.x.cell; clear b)
      | (go_at_call 14; (with_reducible refine Calls.mono (h14 _ G.out.x.vm) ?_); rintro e z2 ⟨rfl, b⟩; clear h14; replace G := Lib.hid (G.out.later b); have kx2 := G.out.x.cell; clear b)
      | (go_at_call 15; (with_reducible refine Calls.mono (h15 _ G.out) ?_); rintro e z ⟨rfl, hz⟩; subst hz; clear h15)
      | (go_at_call 16; (with_reducible refine Calls.mono (h16 _ G.out.x.vm) ?_); rintro e z3 ⟨rfl, b⟩; clear h16; replace G := Lib.hid (G.out.later b); have kx3 := G.out.x.cell; clear b)
      | (go_at_call 17; (with_reducible refine Calls.mono (h17 _ G.out.x.vm) ?_); rintro e z4 ⟨rfl, b⟩; clear h17; replace G := Lib.hid (G.out.later b); have kx4 := G.out.x.cell; clear b)
      | (go_at_call 17; (with_reducible refine Calls.mono (h17n _ G.out.x.vm) ?_); rintro e z5 ⟨rfl, b⟩; clear h17n; replace G := Lib.hid (G.out.later b); clear b)
      | (go_at_call 18; (with_reducible refine Calls.mono (h19 _ G.out) ?_); rintro e z6 ⟨pa, na, ca, rfl, hna, ra, b⟩; clear h19; replace G := Lib.hid (G.out.later b); have HA := Lib.hid (And.intro hna ra); clear b hna ra)
      | (go_at_call 18; (with_reducible refine Calls.mono (h20 _ G.out) ?_); rintro e z7 ⟨po, no, co, rfl, hno, ro, b⟩; clear h20; replace G := Lib.hid (G.out.later b); replace HA := Lib.hid (And.intro HA.out.1 (HRow.later HA.out.2 b)); have HO := Lib.hid (And.intro hno ro); clear b hno ro)
      | (go_at_call 18; (with_reducible refine Calls.mono (h21 _ G.out) ?_); rintro e z8 ⟨pu, nu, cu, rfl, hnu, ru, b⟩; clear h21; replace G := Lib.hid (G.out.later b); replace HA := Lib.hid (And.intro HA.out.1 (HRow.later HA.out.2 b)); replace HO := Lib.hid (And.intro HO.out.1 (HRow.later HO.out.2 b)); have HU := Lib.hid (And.intro hnu ru); clear b hnu ru))
    clear h13 h13t kx
    have hna := HA.out.1
    have hno := HO.out.1
    rw [hna, hno] at HSM
    have K : Hid (K3 W xb yb (.slice p1 q1 d1) (.slice p2 q2 d2) P Q (.slice ps ns cs) (.slice pt nt ct) (.slice pa na ca) (.slice po no co) (.slice pu nu cu) z8) := Lib.hid ⟨G.out, HA.out.2, HO.out.2, HU.out.2⟩
    have g13 := fun y (h : K3 W xb yb (.slice p1 q1 d1) (.slice p2 q2 d2) P Q (.slice ps ns cs) (.slice pt nt ct) (.slice pa na ca) (.slice po no co) (.slice pu nu cu) y) v (hv : Vm y v (fun x => P x && Q x)) => same_any (elems fun x => P x && Q x) pa na ca y HA.out.1 rfl hv (Ro.rd (base := 0) (cap := ca) (by rw [HA.out.1]; exact h.a))
    have g13o := fun y (h : K3 W xb yb (.slice p1 q1 d1) (.slice p2 q2 d2) P Q (.slice ps ns cs) (.slice pt nt ct) (.slice pa na ca) (.slice po no co) (.slice pu nu cu) y) v (hv : Vm y v (fun x => P x || Q x)) => same_any (elems fun x => P x || Q x) po no co y HO.out.1 rfl hv (Ro.rd (base := 0) (cap := co) (by rw [HO.out.1]; exact h.o))
    have g13u := fun y (h : K3 W xb yb (.slice p1 q1 d1) (.slice p2 q2 d2) P Q (.slice ps ns cs) (.slice pt nt ct) (.slice pa na ca) (.slice po no co) (.slice pu nu cu) y) v (hv : Vm y v (outP P Q)) => same_any (elems (outP P Q)) pu nu cu y HU.out.1 rfl hv (Ro.rd (base := 0) (cap := cu) (by rw [show (elems (outP P Q)).length = nu from HU.out.1]; exact h.u))
    have g13s := fun y (h : K3 W xb yb (.slice p1 q1 d1) (.slice p2 q2 d2) P Q (.slice ps ns cs) (.slice pt nt ct) (.slice pa na ca) (.slice po no co) (.slice pu nu cu) y) => same_any (elems P) ps ns cs y HN.out.1 rfl h.l.x.vm (h.l.rs HN.out.1)
    have g13t := fun y (h : K3 W xb yb (.slice p1 q1 d1) (.slice p2 q2 d2) P Q (.slice ps ns cs) (.slice pt nt ct) (.slice pa na ca) (.slice po no co) (.slice pu nu cu) y) => same_any (elems Q) pt nt ct y HN.out.2 rfl h.l.y.vm (h.l.rt HN.out.2)
    obtain ⟨bq, hbq, hbe⟩ : ∃ bq : Bool, (bq = true ↔ ∀ x, P x = Q x) ∧ bq = decide (no = na) := ⟨decide (no = na), by rw [decide_eq_true_eq]; exact HSM.out, rfl⟩
    have g25 := fun y (h : K3 W xb yb (.slice p1 q1 d1) (.slice p2 q2 d2) P Q (.slice ps ns cs) (.slice pt nt ct) (.slice pa na ca) (.slice po no co) (.slice pu nu cu) y) => veq h.l.x.vm h.l.y.vm bq hbq
    have kx := G.out.x.cell
    have ky := G.out.y.cell
    clear G HA HO HU HSM hna hno hbq
    by_cases hq : no = na
    · have hbt : bq = true := by rw [hbe]; exact decide_eq_true hq
      subst hbt
      subst hq
      clear hbe
      go_wp2_with (first
        | (go_at_call 22; (with_reducible refine Calls.mono (vand K.out.l.x.vm K.out.l.y.vm) ?_); rintro e y1 ⟨u1, u2, u3, rfl, m1, b⟩; replace K := Lib.hid (K.out.later b); have kx1 := K.out.l.x.cell; have ky1 := K.out.l.y.cell; clear b)
        | (go_at_call 13; (with_reducible refine Calls.mono (g13 _ K.out _ m1) ?_); rintro e y2 ⟨rfl, b⟩; clear g13 m1; replace K := Lib.hid (K.out.later b); have kx2 := K.out.l.x.cell; have ky2 := K.out.l.y.cell; clear b)
        | (go_at_call 23; (with_reducible refine Calls.mono (vor K.out.l.x.vm K.out.l.y.vm) ?_); rintro e y3 ⟨u1, u2, u3, rfl, m2, b⟩; replace K := Lib.hid (K.out.later b); have kx3 := K.out.l.x.cell; have ky3 := K.out.l.y.cell; clear b)
        | (go_at_call 13; (with_reducible refine Calls.mono (g13o _ K.out _ m2) ?_); rintro e y4 ⟨rfl, b⟩; clear g13o m2; replace K := Lib.hid (K.out.later b); have kx4 := K.out.l.x.cell; have ky4 := K.out.l.y.cell; clear b)
        | (go_at_call 24; (with_reducible refine Calls.mono (vout K.out.l.x.vm K.out.l.y.vm) ?_); rintro e y5 ⟨u1, u2, u3, rfl, m3, b⟩; replace K := Lib.hid (K.out.later b); have kx5 := K.out.l.x.cell; have ky5 := K.out.l.y.cell; clear b)
        | (go_at_call 13; (with_reducible refine Calls.mono (g13u _ K.out _ m3) ?_); rintro e y6 ⟨rfl, b⟩; clear g13u m3; replace K := Lib.hid (K.out.later b); have kx6 := K.out.l.x.cell; have ky6 := K.out.l.y.cell; clear b)
        | (go_at_call 25; (with_reducible refine Calls.mono (g25 _ K.out) ?_); rintro e y7 ⟨rfl, b⟩; clear g25; replace K := Lib.hid (K.out.later b); have kx7 := K.out.l.x.cell; have ky7 := K.out.l.y.cell; clear b)
        | (go_at_call 13; (with_reducible refine Calls.mono (g13s _ K.out) ?_); rintro e y8 ⟨rfl, b⟩; clear g13s; replace K := Lib.hid (K.out.later b); have kx8 := K.out.l.x.cell; have ky8 := K.out.l.y.cell; clear b)
        | (go_at_call 13; (with_reducible refine Calls.mono (g13t _ K.out) ?_); rintro e y9 ⟨rfl, b⟩; clear g13t; replace K := Lib.hid (K.out.later b); clear b))
      go_ret
      exact ⟨rfl, K.out.l.bel⟩
    · have hbt : bq = false := by rw [hbe]; exact decide_eq_false hq
      subst hbt
      have hne : ¬ (no : Int) = (na : Int) := by omega
      have HNE := Lib.hid hne
      clear hbe hq
      go_wp2_with (first
        | (go_at_call 22; (with_reducible refine Calls.mono (vand K.out.l.x.vm K.out.l.y.vm) ?_); rintro e y1 ⟨u1, u2, u3, rfl, m1, b⟩; replace K := Lib.hid (K.out.later b); have kx1 := K.out.l.x.cell; have ky1 := K.out.l.y.cell; clear b)
        | (go_at_call 13; (with_reducible refine Calls.mono (g13 _ K.out _ m1) ?_); rintro e y2 ⟨rfl, b⟩; clear g13 m1; replace K := Lib.hid (K.out.later b); have kx2 := K.out.l.x.cell; have ky2 := K.out.l.y.cell; clear b)
        | (go_at_call 23; (with_reducible refine Calls.mono (vor K.out.l.x.vm K.out.l.y.vm) ?_); rintro e y3 ⟨u1, u2, u3, rfl, m2, b⟩; replace K := Lib.hid (K.out.later b); have kx3 := K.out.l.x.cell; have ky3 := K.out.l.y.cell; clear b)
        | (go_at_call 13; (with_reducible refine Calls.mono (g13o _ K.out _ m2) ?_); rintro e y4 ⟨rfl, b⟩; clear g13o m2; replace K := Lib.hid (K.out.later b); have kx4 := K.out.l.x.cell; have ky4 := K.out.l.y.cell; clear b)
        | (go_at_call 24; (with_reducible refine Calls.mono (vout K.out.l.x.vm K.out.l.y.vm) ?_); rintro e y5 ⟨u1, u2, u3, rfl, m3, b⟩; replace K := Lib.hid (K.out.later b); have kx5 := K.out.l.x.cell; have ky5 := K.out.l.y.cell; clear b)
        | (go_at_call 13; (with_reducible refine Calls.mono (g13u _ K.out _ m3) ?_); rintro e y6 ⟨rfl, b⟩; clear g13u m3; replace K := Lib.hid (K.out.later b); have kx6 := K.out.l.x.cell; have ky6 := K.out.l.y.cell; clear b)
        | (go_at_call 25; (with_reducible refine Calls.mono (g25 _ K.out) ?_); rintro e y7 ⟨rfl, b⟩; clear g25; replace K := Lib.hid (K.out.later b); have kx7 := K.out.l.x.cell; have ky7 := K.out.l.y.cell; clear b)
        | (go_at_call 13; (with_reducible refine Calls.mono (g13s _ K.out) ?_); rintro e y8 ⟨rfl, b⟩; clear g13s; replace K := Lib.hid (K.out.later b); have kx8 := K.out.l.x.cell; have ky8 := K.out.l.y.cell; clear b)
        | (go_at_call 13; (with_reducible refine Calls.mono (g13t _ K.out) ?_); rintro e y9 ⟨rfl, b⟩; clear g13t; replace K := Lib.hid (K.out.later b); clear b))
      go_ret
      exact ⟨by show Ending.returned (.bool (!((no : Int) == (na : Int)))) = _; rw [beq_false_of_ne HNE.out]; rfl, K.out.l.bel⟩
end Go.Proofs.Ytpdidlnbeahanaa
