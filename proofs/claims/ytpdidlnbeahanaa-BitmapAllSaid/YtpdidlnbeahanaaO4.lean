/- BitmapNot: the walk. -/
import Derived.Test.YtpdidlnbeahanaaO7
import Derived.Test.YtpdidlnbeahanaaQ5
namespace Go.Proofs.Ytpdidlnbeahanaa
open Go Go.RowKit Go.Shelf Go.Proofs

/-- Two rows of numbers that have no block in common. -/
structure TwoR (w : World) (S : Nat) (av bv : Value) (A B : List Int) : Prop where
  a : Ro w S av A
  b : Ro w S bv B
  ap : ∀ q, av.ownBlock = some q → bv.ownBlock ≠ some q
theorem TwoR.symm {w : World} {S : Nat} {av bv : Value} {A B : List Int} (h : TwoR w S av bv A B) : TwoR w S bv av B A := ⟨h.b, h.a, fun q h1 h2 => h.ap q h2 h1⟩
theorem TwoR.app {y : World} {S : Nat} {av bv : Value} {A B : List Int} (h : TwoR y S av bv A B) {n : Nat} (hn : B.length = n) (hl : n + 1 ≤ 1000000) (hS : S ≤ y.heap.size) (x : Int) :
    ∃ g cap w', (Builtin.append_ #[29, 29] 29 #[bv, .slice (some ⟨y.heap.size, 0, none⟩) 1 1]).run Try.prog (y.alloc (.cells #[(Value.int .i64 (x))] 3)) = .ok (.slice (some ⟨g, 0, none⟩) (n + 1) cap) w' ∧
      TwoR w' S av (.slice (some ⟨g, 0, none⟩) (n + 1) cap) A (B ++ [x]) ∧ Below S y w' := by
  obtain ⟨g, cap, w', hrun, r, g2, own⟩ := app_int 29 Try.underlying29 y S hn h.b hl hS x
  refine ⟨g, cap, w', hrun, ⟨HRow.of h.a (fun q hq => g2.block q (HRow.lt h.a q hq).2 (fun e => h.ap q hq e.symm)), r, fun q hq e => ?_⟩, below_row h.b g2 (Nat.le_refl _) hS⟩
  have e' : g = q := Option.some.inj e
  subst e'
  rcases own with e | e
  · exact h.ap g hq e
  · have := (HRow.lt h.a g hq).2; omega
theorem not_elems (P : Int → Bool) (k : Int) (hk : k ≤ 65536) : (rng 0 k).filter (fun x => !P x) = elems (notP P k) :=
  srt_ext ((rng_srt _ _).filter _) (elems_srt _) (fun x => by
    rw [List.mem_filter, mem_rng, mem_elems]
    unfold notP
    simp only [Bool.and_eq_true, decide_eq_true_eq]
    constructor
    · rintro ⟨h1, h2⟩
      exact ⟨⟨h1.1, by omega⟩, ⟨h1.1, h1.2, by omega⟩, h2⟩
    · rintro ⟨_, h1, h2⟩
      exact ⟨⟨h1.1, h1.2.1⟩, h2⟩)
theorem yes_elems (P : Int → Bool) (k : Int) (hk : k ≤ 65536) : (rng 0 k).filter P = elems (notP (notP P k) k) :=
  srt_ext ((rng_srt _ _).filter _) (elems_srt _) (fun x => by
    rw [List.mem_filter, mem_rng, mem_elems]
    unfold notP
    simp only [Bool.and_eq_true, decide_eq_true_eq, Bool.not_eq_true', Bool.and_eq_false_iff, decide_eq_false_iff_not, Bool.not_eq_false']
    constructor
    · rintro ⟨h1, h2⟩
      exact ⟨⟨h1.1, by omega⟩, ⟨h1.1, h1.2, by omega⟩, .inr h2⟩
    · rintro ⟨_, h1, h2⟩
      exact ⟨⟨h1.1, h1.2.1⟩, h2.resolve_left (fun h => h h1)⟩)
theorem rng_snoc (i : Nat) : rng 0 ((i + 1 : Nat) : Int) = rng 0 (i : Int) ++ [(i : Int)] := by
  have e : rng (i : Int) ((i + 1 : Nat) : Int) = [(i : Int)] := by
    rw [rng_cons (by omega), rng_nil (by omega)]
  rw [rng_split (a := 0) (b := (i : Int)) (c := ((i + 1 : Nat) : Int)) (by omega) (by omega), e]

theorem span_same (P : Int → Bool) (k : Int) (hk : k ≤ 65536) (x : Int) : (P x && spanP 0 k x) = ofP (elems (notP (notP P k) k)) x := by
  rw [← yes_elems P k hk, Bool.eq_iff_iff]
  unfold ofP spanP inB
  simp only [Bool.and_eq_true, decide_eq_true_eq, List.mem_filter, mem_rng]
  constructor
  · rintro ⟨h1, h2⟩
    exact ⟨⟨⟨h2.1, h2.2.2.2⟩, h1⟩, h2.1, h2.2.1⟩
  · rintro ⟨⟨h1, h2⟩, h3⟩
    exact ⟨h2, h3.1, h3.2, h1.1, h1.2⟩
/-- Where BitmapNot's last line stands. -/
structure N4 (W : World) (tb : Nat) (v : Value) (P : Int → Bool) (p7 p8 : Option Addr) (A B : List Int) (w : World) : Prop where
  m : Bm w tb v P
  r7 : Rd w p7 A
  r8 : Rd w p8 B
  bel : Below W.heap.size W w
theorem N4.later {W w w' : World} {tb : Nat} {v : Value} {P : Int → Bool} {p7 p8 : Option Addr} {A B : List Int} (h : N4 W tb v P p7 p8 A B w) (hb : Below w.heap.size w w') : N4 W tb v P p7 p8 A B w' :=
  ⟨h.m.later hb, h.r7.later hb, h.r8.later hb, below_on h.bel hb⟩

set_option maxRecDepth 100000 in
set_option maxHeartbeats 4000000 in
theorem not_walk (px : Option Addr) (xs : List Int) (nx cx : Nat) (k : Int) (W : World) (hbeg : Calls Try.prog 9 #[] W fun e W' => e = .returned (.bool true) ∧ Below W.heap.size W W')
    (hx : xs.length = nx) (rx : Rd W px xs) (kx : nx ≤ cx ∧ cx ≤ maxLen) :
    Calls Try.prog 4 #[.slice px nx cx, (Value.int .i64 (k))] W fun e W' => e = .returned (.bool true) ∧ Below W.heap.size W W' := by
  have cutx := cut_any px nx cx kx.1 kx.2
  obtain ⟨mx, hmx⟩ : ∃ m, min nx 60 = m := ⟨_, rfl⟩
  rw [hmx] at cutx
  have hlx : (xs.take 60).length = mx := by rw [List.length_take]; omega
  have rx' := rx.cut
  generalize xs.take 60 = X at hlx rx'
  have hm60 : mx ≤ 60 := by omega
  have ofx := fun y (hb : Below W.heap.size W y) => vof (W := y) (xs := X) (n := mx) (c := cx) hlx (by omega) (rx'.later hb)
  have stx := fun y (hb : Below W.heap.size W y) => setof_any X px mx cx y hlx (by omega) (rx'.later hb)
  clear hx rx kx hmx rx'
  by_cases hk : k < -5 ∨ 300 < k
  · rcases hk with hk | hk
    · have hk2 : ¬ -5 ≤ k := by omega
      go_enter Try.func4, Try.ntmps4
      go_wp2_with (first
        | (go_at_call 9; (with_reducible refine hbeg.mono ?_); rintro e w1 ⟨rfl, b1⟩; clear hbeg)
        | (go_at_call 10; (with_reducible refine (cutx _).mono ?_); rintro e w2 ⟨rfl, hw2⟩; subst w2; clear cutx))
      go_ret
      exact ⟨rfl, b1⟩
    · have hk2 : ¬ k < -5 := by omega
      go_enter Try.func4, Try.ntmps4
      go_wp2_with (first
        | (go_at_call 9; (with_reducible refine hbeg.mono ?_); rintro e w1 ⟨rfl, b1⟩; clear hbeg)
        | (go_at_call 10; (with_reducible refine (cutx _).mono ?_); rintro e w2 ⟨rfl, hw2⟩; subst w2; clear cutx))
      go_ret
      exact ⟨rfl, b1⟩
  · have hk0 : ¬ k < -5 := by omega
    have hk1 : ¬ 300 < k := by omega
    clear hk
    go_enter Try.func4, Try.ntmps4
    go_upto_block 0 with (first
      | (go_at_call 9; (with_reducible refine hbeg.mono ?_); rintro e w1 ⟨rfl, b1⟩; clear hbeg)
      | (go_at_call 10; (with_reducible refine (cutx _).mono ?_); rintro e w2 ⟨rfl, hw2⟩; subst w2; clear cutx)
      | (go_at_call 12; (with_reducible refine (stx _ b1).mono ?_); rintro e w3 ⟨T, tv, hso, hmem, hlen, rfl, r3, b3⟩; clear stx))
    obtain ⟨pt, ct, rfl, _, _⟩ := HRow.isslice r3
    obtain ⟨nt, hnt⟩ : ∃ nt, T.length = nt := ⟨_, rfl⟩
    have hPT : ∀ i, ofP X i = true ↔ i ∈ T := fun i => by
      unfold ofP
      rw [hmem i, Bool.and_eq_true, decide_eq_true_eq]
    have rT : Rd w3 pt T := Ro.rd r3
    have b3 := below_on b1 b3
    generalize ofP X = P at hPT ofx
    have HT := Lib.hid (And.intro hPT (And.intro rT (And.intro hnt (And.intro b3 hlen))))
    rw [hnt]
    clear r3 hso hmem hPT rT hnt b3 b1 hlen
    obtain ⟨S, hS⟩ : ∃ S, w3.heap.size = S := ⟨_, rfl⟩
    obtain ⟨K, hK⟩ : ∃ K, k.toNat = K := ⟨_, rfl⟩
    have HS := Lib.hid (And.intro hS hK)
    clear hS hK
    go_cut [7, 8] from 24 to 39 (fun av bv w => ∃ p7 n7 c7 p8 n8 c8, av = .slice p7 n7 c7 ∧ bv = .slice p8 n8 c8 ∧ Rd w p7 (elems (notP P k)) ∧ (elems (notP P k)).length = n7 ∧ Rd w p8 (elems (notP (notP P k) k)) ∧ (elems (notP (notP P k) k)).length = n8 ∧ n7 ≤ 300 ∧ n8 ≤ 300 ∧ Below W.heap.size W w)
    case first =>
      go_wp2_with fail
      go_loopg [7, 8, 9] (K + 1) (fun gh av bv iv w => ∃ (i : Nat) (A B : List Int), iv = .int .i64 (i : Int) ∧ i ≤ K ∧ K + 1 ≤ i + gh ∧ A = (rng 0 (i : Int)).filter (fun x => !P x) ∧ B = (rng 0 (i : Int)).filter P ∧ A.length ≤ i ∧ B.length ≤ i ∧ TwoR w S av bv A B ∧ Below S w3 w)
      case atStart => exact ⟨0, [], [], rfl, Nat.zero_le _, by omega, rfl, rfl, Nat.le_refl _, Nat.le_refl _, ⟨HRow.nil, HRow.nil, fun q h => by cases h⟩, Below.refl _ _⟩
      case round =>
        obtain ⟨i, A, B, rfl, hiK, hig, hA, hB, hAl, hBl, h2, hbw⟩ := hrel
        obtain ⟨n7, hn7⟩ : ∃ n7, A.length = n7 := ⟨_, rfl⟩
        obtain ⟨n8, hn8⟩ : ∃ n8, B.length = n8 := ⟨_, rfl⟩
        obtain ⟨p7, c7, rfl, _, _⟩ := HRow.isslice h2.a
        obtain ⟨p8, c8, rfl, _, _⟩ := HRow.isslice h2.b
        have rd7 := Ro.rd h2.a
        have rd8 := Ro.rd h2.b
        rw [hn7, hn8] at h2
        have hSw : S ≤ wr.heap.size := by have := hbw.size; have := HS.out.1; omega
        by_cases hlt : (i : Int) < k
        · have hiK1 : i + 1 ≤ K := by have := HS.out.2; omega
          have hb3 : Below w3.heap.size w3 wr := by rw [HS.out.1]; exact hbw
          have hr : rng 0 ((i + 1 : Nat) : Int) = rng 0 (i : Int) ++ [(i : Int)] := rng_snoc i
          obtain ⟨b, hb⟩ : ∃ b, P (i : Int) = b := ⟨_, rfl⟩
          have hh := sethas_any T pt nt ct wr HT.out.2.2.1 (by have := HT.out.2.2.1; have := HT.out.2.2.2.2; omega) (HT.out.2.1.later hb3) (i : Int) b (by rw [← hb]; exact HT.out.1 i)
          have HF := Lib.hid (And.intro hr (And.intro hb (And.intro hA (And.intro hB (And.intro hn7 (And.intro hn8 (And.intro h2 hbw)))))))
          rw [hn7] at hAl ⊢
          rw [hn8] at hBl ⊢
          cases b
          · obtain ⟨g, cap, w5, hrun, r5, b5⟩ := h2.symm.app hn7 (by omega) hSw (i : Int)
            have HR := Lib.hid (And.intro r5.symm b5)
            clear hA hB hn7 hn8 h2 hbw hb3 hr hb r5 b5 rd7 rd8
            go_wp2_with (first
              | (go_at_call 15; (with_reducible refine hh.mono ?_); rintro e y1 ⟨rfl, hy1⟩; subst y1; clear hh)
              | (at_builtin; refine wpList_append_run rfl (.tmp 36) (.tmp 38) 29 rfl rfl rfl hrun ?_))
            go_roundg (K - i)
            case measure => omega
            case rel => exact ⟨i + 1, A ++ [(i : Int)], B, by go_num, hiK1, by omega, by
              rw [HF.out.1, List.filter_append, ← HF.out.2.2.1, List.filter_cons_of_pos (by rw [HF.out.2.1]; rfl)]; rfl, by
              rw [HF.out.1, List.filter_append, ← HF.out.2.2.2.1, List.filter_cons_of_neg (by rw [HF.out.2.1]; decide)]; simp, by rw [List.length_append, HF.out.2.2.2.2.1]; simp; omega, by rw [HF.out.2.2.2.2.2.1]; omega, HR.out.1, HF.out.2.2.2.2.2.2.2.trans HR.out.2⟩
          · obtain ⟨g, cap, w5, hrun, r5, b5⟩ := h2.app hn8 (by omega) hSw (i : Int)
            have HR := Lib.hid (And.intro r5 b5)
            clear hA hB hn7 hn8 h2 hbw hb3 hr hb r5 b5 rd7 rd8
            go_wp2_with (first
              | (go_at_call 15; (with_reducible refine hh.mono ?_); rintro e y1 ⟨rfl, hy1⟩; subst y1; clear hh)
              | (at_builtin; refine wpList_append_run rfl (.tmp 32) (.tmp 34) 29 rfl rfl rfl hrun ?_))
            go_roundg (K - i)
            case measure => omega
            case rel => exact ⟨i + 1, A, B ++ [(i : Int)], by go_num, hiK1, by omega, by
              rw [HF.out.1, List.filter_append, ← HF.out.2.2.1, List.filter_cons_of_neg (by rw [HF.out.2.1]; decide)]; simp, by
              rw [HF.out.1, List.filter_append, ← HF.out.2.2.2.1, List.filter_cons_of_pos (by rw [HF.out.2.1])]; rfl, by rw [HF.out.2.2.2.2.1]; omega, by rw [List.length_append, HF.out.2.2.2.2.2.1]; simp; omega, HR.out.1, HF.out.2.2.2.2.2.2.2.trans HR.out.2⟩
        · have hik : rng 0 (i : Int) = rng 0 k := by
            by_cases h0 : 0 ≤ k
            · have : (i : Int) = k := by have := HS.out.2; omega
              rw [this]
            · have := HS.out.2
              rw [rng_nil (by omega), rng_nil (by omega)]
          rw [hik] at hA hB
          rw [not_elems P k (by omega)] at hA
          rw [yes_elems P k (by omega)] at hB
          have HF := Lib.hid (And.intro rd7 (And.intro rd8 (And.intro hA (And.intro hB (below_on HT.out.2.2.2.1 (by rw [HS.out.1]; exact hbw))))))
          have hKk := HS.out.2
          rw [hn7] at hAl ⊢
          rw [hn8] at hBl ⊢
          have HN := Lib.hid (And.intro hn7 hn8)
          clear hA hB hn7 hn8 h2 hbw hik rd7 rd8
          go_wp2_with fail
          go_meet
          exact ⟨_, _, _, _, _, _, rfl, rfl, by rw [← HF.out.2.2.1]; exact HF.out.1, by rw [← HF.out.2.2.1]; exact HN.out.1, by rw [← HF.out.2.2.2.1]; exact HF.out.2.1, by rw [← HF.out.2.2.2.1]; exact HN.out.2, by omega, by omega, HF.out.2.2.2.2⟩
    case rest =>
      obtain ⟨p7, n7, c7, p8, n8, c8, rfl, rfl, r7, hn7, r8, hn8, h7, h8, hB⟩ := hcut
      have HR := Lib.hid (And.intro r7 (And.intro r8 hB))
      have HNN := Lib.hid (And.intro hn7 hn8)
      have hk3 : k ≤ 65536 := by omega
      clear r7 r8 hn7 hn8
      go_upto_region 16 with (go_at_call 11; (with_reducible refine (ofx _ hB).mono ?_); rintro e w4 ⟨p1, q1, d1, rfl, m1, b2⟩; clear ofx hB)
      have g1 := heap_alloc_new w4 (.cells #[.slice p1 q1 d1] 27)
      have B4 := below_alloc w4 (.cells #[.slice p1 q1 d1] 27)
      obtain ⟨tb, htb⟩ : ∃ tb, w4.heap.size = tb := ⟨_, rfl⟩
      obtain ⟨y, hyw⟩ : ∃ y, w4.alloc (.cells #[.slice p1 q1 d1] 27) = y := ⟨_, rfl⟩
      rw [hyw, htb]
      rw [hyw] at g1 B4
      have hM := (m1.later B4).bm g1
      rw [htb] at hM
      have c0 := hM.cell
      have B5 := below_on b2 B4
      have G : Hid (N4 W tb (.slice p1 q1 d1) P p7 p8 (elems (notP P k)) (elems (notP (notP P k) k)) y.drew) := Lib.hid (N4.later ⟨hM, HR.out.1.later B5, HR.out.2.1.later B5, below_on HR.out.2.2 B5⟩ (Below.refl _ y).drew)
      clear m1 g1 B4 hM B5 b2 hyw htb
      go_region_held3 (fun w => w.cell? ⟨tb, 0, none⟩ = some (.slice p1 q1 d1)) (first | exact G.out.m.cell | exact c0) (first
        | (go_at_call 26; (with_reducible refine Calls.mono (vnot G.out.m.vm k) ?_); rintro e z1 ⟨pa, qa, da, rfl, ma, b⟩; replace G := Lib.hid (G.out.later b))
        | (go_at_call 26; (with_reducible refine Calls.mono (vnot ma k) ?_); rintro e z2 ⟨pc, qc, dc, rfl, mc, b⟩; replace G := Lib.hid (G.out.later b))
        | (go_at_call 13; (with_reducible refine Calls.mono (same_any (elems (notP P k)) p7 n7 c7 _ HNN.out.1 rfl ma G.out.r7) ?_); rintro e z3 ⟨rfl, b⟩; replace G := Lib.hid (G.out.later b))
        | (go_at_call 13; (with_reducible refine Calls.mono (same_any (elems (notP (notP P k) k)) p8 n8 c8 _ HNN.out.2 rfl mc G.out.r8) ?_); rintro e z4 ⟨rfl, b⟩; replace G := Lib.hid (G.out.later b))
        | (go_at_call 27; (with_reducible refine Calls.mono (vspan 0 k) ?_); rintro e z5 ⟨ps, qs, ds, rfl, ms, b⟩; replace G := Lib.hid (G.out.later b))
        | (go_at_call 22; (with_reducible refine Calls.mono (vand G.out.m.vm ms) ?_); rintro e z6 ⟨pn, qn, dn, rfl, mn, b⟩; replace G := Lib.hid (G.out.later b))
        | (go_at_call 11; (with_reducible refine Calls.mono (vof HNN.out.2 (by omega) G.out.r8) ?_); rintro e z7 ⟨pf, qf, df, rfl, mf, b⟩; replace G := Lib.hid (G.out.later b); replace mn := mn.later b)
        | (go_at_call 25; (with_reducible refine Calls.mono (veq mn mf true ⟨fun _ => span_same P k hk3, fun _ => rfl⟩) ?_); rintro e z8 ⟨rfl, b⟩; replace G := Lib.hid (G.out.later b)))
      go_wp2_with fail
      go_ret
      exact ⟨rfl, G.out.bel⟩
end Go.Proofs.Ytpdidlnbeahanaa
