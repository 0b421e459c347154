import Derived.Test.YtjlnfeableleeaaB
namespace Go.Proofs.Ytjlnfeableleeaa
open Go Go.RowKit Go.Shelf Go.Proofs
attribute [local go_sem] Oper.semAt_some
attribute [local go_sem] eql26n eql26f eql32f eql34f eql37f eql42n eql42f wide_fn wide_depth

set_option maxHeartbeats 1000000 in
theorem f42_low (cn cs : Nat) (n : Int) (hn : n < 1) (yf : Fn) (yb : Array Value) (W : World) (hc : W.cell? ⟨cn, 0, none⟩ = some (Value.int .i64 (n))) :
    Calls Try.prog 42 #[.func yf #[] yb, (Value.pointer (some ⟨cn, 0, none⟩)), (Value.pointer (some ⟨cs, 0, none⟩))] W fun e W' => (∃ v, e = .returned v) ∧ W' = W.alloc (.cells #[.func yf #[] yb] 34) := by
  have hcl : cn < W.heap.size := World.block_lt_of_cell? W ⟨cn, 0, none⟩ hc
  refine (callsIn_wide (n := 0)).1 ?_
  refine callsIn_of_wp Try.func42 rfl trivial ?_ rfl
  simp only [Try.ntmps42, List.size_toArray, List.length_cons, List.length_nil, Nat.reduceAdd, Nat.reduceSub, Array.replicate_succ, Array.replicate_zero, List.push_toArray, List.append_toArray, List.nil_append, List.cons_append]
  gi_wp2
  exact bodyPost_ret (results_none rfl _ _ _) rfl ⟨⟨_, rfl⟩, rfl⟩

set_option maxHeartbeats 1000000 in
/-- **Take's closure.** -/
theorem take_gives (cn cs : Nat) (sv : Value) (n : Int) (hnhi : n ≤ 9223372036854775807) (xs : List Int) (Ms Mms : Nat → Prop) (Qs : Nat → World → Prop) (hs : GivesO sv xs Ms Mms Qs)
    (hcs : ¬ Ms cs) (hcn : ¬ Ms cn) :
    Gives Try.prog (.func (.func 42) #[] #[(Value.pointer (some ⟨cn, 0, none⟩)), (Value.pointer (some ⟨cs, 0, none⟩))]) enc1 (xs.take n.toNat) (fun b => b = cn ∨ b = cs ∨ Ms b) Mms
      (fun k W => Cell W cn (Value.int .i64 (n)) ∧ Cell W cs sv ∧ Qs k W) := by
  have hsub := hs.sub
  refine ⟨?_, ⟨42, _, rfl⟩, fun b x => .inr (.inr (hsub b x)), ?_⟩
  · rintro k W W' ⟨h1, h2, h3⟩ hM hsz hb
    exact ⟨h1.of (hb _ (.inl rfl)), h2.of (hb _ (.inr (.inl rfl))), hs.loc k W W' h3 (fun b x => hM b (.inr (.inr x))) hsz (fun b x => hb b (.inr (.inr x)))⟩
  rintro yf yb J Jx S W hJ hJx hS hM hSM ⟨⟨c1, g1⟩, ⟨c2, g2⟩, hq⟩ h0 hY
  refine .inl ⟨42, _, rfl, enters_of Try.func42 (by kernel_rfl) rfl, Calls.mono (R := GPost S Mms J Jx (fun k W => Cell W cn (Value.int .i64 (n)) ∧ Cell W cs sv ∧ Qs k W) (xs.take n.toNat).length W) ?_ (fun _ _ h => h)⟩
  have hcnl : cn < W.heap.size := hM cn (.inl rfl)
  have hcsl : cs < W.heap.size := hM cs (.inr (.inl rfl))
  have hfv := hs.fv
  by_cases hn1 : n < 1
  · have e0 : n.toNat = 0 := by omega
    refine (f42_low cn cs n hn1 yf yb W c1).mono ?_
    rintro e W' ⟨⟨v, rfl⟩, rfl⟩
    refine ⟨v, S, rfl, .refl _ _, hS.later (by simp), (Chg.refl _ _).alloc _, .inl ⟨?_, ?_, ?_, ?_⟩⟩
    · rw [e0]; exact hJ 0 S W _ h0 hS (by simp) (fun b x => Below.heap_alloc _ _ _ (hS b x))
    · exact Cell.alloc ⟨c1, g1⟩ _
    · exact Cell.alloc ⟨c2, g2⟩ _
    · rw [e0]; exact hs.loc 0 W _ hq (fun b x => hM b (.inr (.inr x))) (by simp) (fun b x => Below.heap_alloc _ _ _ (hM b (.inr (.inr x))))
  obtain ⟨m, hm⟩ : ∃ m : Nat, n = (m : Int) := ⟨n.toNat, by omega⟩
  subst hm
  have hm1 : 1 ≤ m := by omega
  have hm2 : (m : Int) ≤ 9223372036854775807 := hnhi
  rw [Int.toNat_natCast] at *
  obtain ⟨N, hN⟩ : ∃ N, (xs.take m).length = N := ⟨_, rfl⟩
  rw [hN]
  have HN : Hid ((xs.take m).length = N) := Lib.hid hN
  clear hN
  refine (callsIn_wide (n := 0)).1 ?_
  refine callsIn_of_wp_marks Try.func42 rfl trivial ?_ rfl
  simp only [Try.ntmps42, List.size_toArray, List.length_cons, List.length_nil, Nat.reduceAdd, Nat.reduceSub, Array.replicate_succ, Array.replicate_zero, List.push_toArray, List.append_toArray, List.nil_append, List.cons_append]
  gi_wp2_with (gi_at_call 38; refine (callsIn_wide.2 (tame_any sv hfv _)).mono ?_; rintro e w1 ⟨rfl, rfl⟩)
  obtain ⟨D, hD⟩ : ∃ D, W.heap.size = D := ⟨_, rfl⟩
  obtain ⟨w2, hw2⟩ : ∃ w2, (((W.alloc (.cells #[.func yf #[] yb] 34)).alloc (.cells #[(Value.int .i64 ((m : Int)))] 3)).alloc (.cells #[sv] 26)) = w2 := ⟨_, rfl⟩
  have hz2 : w2.heap.size = D + 3 := by rw [← hw2]; simp [hD]
  have hch2 : Chg (fun _ => False) W w2 := by rw [← hw2]; exact (((Chg.refl _ W).alloc _).alloc _).alloc _
  have hcD : Cell w2 D (.func yf #[] yb) := by rw [← hw2, ← hD]; exact ((Cell.new W _ _).alloc _).alloc _
  have hcL : Cell w2 (D + 1) (Value.int .i64 ((m : Int))) := by rw [← hw2, ← hD]; exact (Cell.new2 W _ _ _).alloc _
  have hcT : Cell w2 (D + 2) sv := by
    rw [← hw2, ← hD]; have := Cell.new2 (W.alloc (.cells #[.func yf #[] yb] 34)) (.cells #[(Value.int .i64 ((m : Int)))] 3) sv 26
    rw [World.size_alloc] at this; exact this
  rw [hw2, hD, show D + 1 + 1 = D + 2 from rfl]
  rw [hD] at hcnl hcsl
  have hold : ∀ b, b < D → w2.heap[b]? = W.heap[b]? := fun b hb => hch2.block b (by omega) (fun x => x)
  have hMD : ∀ b, (b = cn ∨ b = cs ∨ Ms b) → b < D := fun b x => by rw [← hD]; exact hM b x
  have hSD : ∀ b, S b → b < D := fun b x => by rw [← hD]; exact hS b x
  have hro : ∀ W1, Chg (fun b => (S b ∨ (b = D ∨ b = D + 1)) ∨ Mms b) w2 W1 → Cell W1 cn (Value.int .i64 ((m : Int))) ∧ Cell W1 cs sv ∧ Chg (fun b => S b ∨ Mms b) W W1 := fun W1 hc => by
    refine ⟨Cell.of ⟨c1, g1⟩ ((hc.block cn (by omega) ?_).trans (hold cn hcnl)), Cell.of ⟨c2, g2⟩ ((hc.block cs (by omega) ?_).trans (hold cs hcsl)), hch2.trans hc (fun _ _ x => x.elim) (fun b hb x => ?_)⟩
    · rintro ((x | x) | x)
      · exact hSM cn x (.inl rfl)
      · omega
      · exact hcn (hsub cn x)
    · rintro ((x | x) | x)
      · exact hSM cs x (.inr (.inl rfl))
      · omega
      · exact hcs (hsub cs x)
    · rcases x with (x | x) | x
      · exact .inl x
      · omega
      · exact .inr x
  clear hw2
  refine wpIn_rangeFunc_sep (sv := .func (.func 49) #[] #[(Value.pointer (some ⟨D + 2, 0, none⟩))]) rfl (tame_gives (D + 2) sv xs Ms Mms Qs hs (fun x => by have := hMD _ (.inr (.inr x)); omega)) (fun _ => rfl)
    (fun k => Plus (fun b => b = D ∨ b = D + 1) (J k) (fun W => k < m ∧ Cell W D (.func yf #[] yb) ∧ Cell W (D + 1) (Value.int .i64 ((m : Int) - (k : Int)))))
    (fun c k T W => c = .ret ∧ Plus (fun b => b = D ∨ b = D + 1) (fun T W => (k ≤ m ∧ Jx k T W) ∨ (k = m ∧ J k T W)) (fun _ => True) T W)
    (fun k => Plus.loc (hJ _) ?l1) (fun c k => ?l2) (fun b => S b ∨ (b = D ∨ b = D + 1)) ?hS ?hM ?hSM ?hQ ?h0
    (fun x => { tmps := #[.func yf #[] yb, (Value.pointer (some ⟨cn, 0, none⟩)), (Value.pointer (some ⟨cs, 0, none⟩)), (Value.pointer (some ⟨D, 0, none⟩)), (Value.pointer (some ⟨D + 1, 0, none⟩)), (Value.int .i64 (x)), (Value.int .i64 ((m : Int))), .bool false, (Value.int .i64 ((m : Int))), sv, .func (.func 49) #[] #[(Value.pointer (some ⟨D + 2, 0, none⟩))], (Value.int .i64 (x)), undef, undef, undef, undef, undef, undef, undef, undef, undef, undef], defers := [] }) ?assign ?body ?done ?stop
  case l1 =>
    rintro A B ⟨a0, a1, a2⟩ hin hsz hb
    exact ⟨a0, a1.of (hb _ (.inl rfl)), a2.of (hb _ (.inr rfl))⟩
  case l2 =>
    rintro T A B ⟨rfl, h⟩ hin hsz hb
    refine ⟨rfl, Plus.loc ?_ (fun A B _ _ _ _ => trivial) T A B h hin hsz hb⟩
    rintro T A B (⟨h1, h2⟩ | ⟨h1, h2⟩) i1 i2 i3
    · exact .inl ⟨h1, hJx _ T A B h2 i1 i2 i3⟩
    · exact .inr ⟨h1, hJ _ T A B h2 i1 i2 i3⟩
  case hS =>
    rintro b (x | x | x)
    · have := hSD b x; omega
    all_goals omega
  case hM =>
    rintro b (x | x)
    · omega
    · have := hMD b (.inr (.inr x)); omega
  case hSM =>
    rintro b (x | x | x) (y | y)
    · have := hSD b x; omega
    · exact hSM b x (.inr (.inr y))
    · omega
    · have := hMD b (.inr (.inr y)); omega
    · omega
    · have := hMD b (.inr (.inr y)); omega
  case hQ => exact ⟨hcT, hs.loc 0 W w2 hq (fun b x => hM b (.inr (.inr x))) (by omega) (fun b x => hold b (hMD b (.inr (.inr x))))⟩
  case h0 =>
    refine ⟨S, fun _ => Iff.rfl, ?_, hJ _ S W w2 h0 hS (by omega) (fun b x => hold b (hSD b x)), by omega, hcD, by simpa using hcL⟩
    rintro b (x | x) hs
    · have := hSD b hs; omega
    · have := hSD b hs; omega
  case assign =>
    intro l x W K hK
    dsimp only [enc1]
    gi_wp2
    exact hK
  case body =>
    rintro l k hk T W1 hin hchg ⟨T0, hT, hn, hj, hkm, hd1, hd2⟩
    obtain ⟨hd3, hd4, hcW⟩ := hro W1 hchg
    have hsz := hchg.size
    obtain ⟨q, hqe⟩ : ∃ q : Int, (m : Int) - (k : Int) = q := ⟨_, rfl⟩
    rw [hqe] at hd2
    have hq1 : 1 ≤ q := by omega
    have hq2 : q ≤ 9223372036854775807 := by omega
    have hin0 : InW T0 W1 := fun b x => hin b ((hT b).2 (.inl x))
    obtain ⟨w, hw⟩ : ∃ w, W1.setCell ⟨D + 1, 0, none⟩ (Value.int .i64 (q - 1)) = w := ⟨_, rfl⟩
    have hcw : Chg T W1 w := by rw [← hw]; exact (Chg.refl T W1).setCell (fun _ => (hT _).2 (.inr (.inr rfl))) _
    have hzw := hcw.size
    have hk0 : ∀ b, b ≠ D + 1 → w.heap[b]? = W1.heap[b]? := fun b hb => by rw [← hw]; exact Below.heap_setCell _ _ _ _ hb
    have hcWw : Chg (fun b => S b ∨ Mms b) W w := by rw [← hw]; exact hcW.setCell (fun x => by rw [hD] at x; have : D + 1 < D := x; omega) _
    have hw1 : Cell w D (.func yf #[] yb) := hd1.of (hk0 _ (by omega))
    have hw2' : Cell w (D + 1) (Value.int .i64 (q - 1)) := by rw [← hw]; exact hd2.set _
    have hjw : J k T0 w := hJ k T0 W1 w hj hin0 hzw (fun b x => hk0 b (fun e => hn b (.inr e) x))
    have hlt : k < (xs.take m).length := by rw [List.length_take]; omega
    have hy := hY k hlt T0 w (hin0.later hzw) hcWw hjw
    have hget : (xs.take m)[k] = xs[k] := by simp
    rw [hget] at hy
    have hpost : ∀ S2 W3, Grows T0 S2 w → InW S2 W3 → Chg T0 w W3 →
        Grows T (fun b => S2 b ∨ (b = D ∨ b = D + 1)) W1 ∧ InW (fun b => S2 b ∨ (b = D ∨ b = D + 1)) W3 ∧ Chg T W1 W3 ∧ (∀ b, (b = D ∨ b = D + 1) → ¬ S2 b) ∧ Cell W3 D (.func yf #[] yb) ∧ Cell W3 (D + 1) (Value.int .i64 (q - 1)) := fun S2 W3 p1 p2 p3 => by
      obtain ⟨s1, s2, s3, s4, s5⟩ := Plus.step hT hn (hin.later hzw) p1 p2 p3
      exact ⟨fun b x => (s1 b x).imp (fun y => y) (fun y => by omega), s2, hcw.trans s3 (fun _ _ x => x) (fun _ _ x => x), s4, hw1.of (s5 _ (.inl rfl)), hw2'.of (s5 _ (.inr rfl))⟩
    obtain ⟨d1, e1⟩ := hd1
    obtain ⟨d2, e2⟩ := hd2
    have hqe2 : (m : Int) - ((k + 1 : Nat) : Int) = q - 1 := by omega
    have hcase : q = 1 ∨ 2 ≤ q := by omega
    have HE : Hid ((m : Int) - ((k + 1 : Nat) : Int) = q - 1) := Lib.hid hqe2
    have HQ : Hid ((m : Int) - (k : Int) = q) := Lib.hid hqe
    clear hY hj hget hqe hqe2 hcw hd3 hd4 hcW hcWw hjw hlt hk0
    obtain ⟨dd1, ee1⟩ := hw1
    obtain ⟨dd2, ee2⟩ := hw2'
    have Hw : Hid (W1.setCell ⟨D + 1, 0, none⟩ (Value.int .i64 (q - 1)) = w) := Lib.hid hw
    clear hw
    gi_wp2_with ((with_reducible refine wpListIn_callV ?_ ?_ (.func yf #[] yb) [(Value.int .i64 (xs[k]))] ?_ ?_ ?_); rfl; rfl; rfl; rfl; rw [Hw.out]; refine hy.mono ?_; clear hy; rintro e W3 ⟨S2, p1, p2, p3, (⟨rfl, p4⟩ | ⟨rfl, p4⟩)⟩ <;> (obtain ⟨q1, q2, q3, q4, q5, q6⟩ := hpost S2 W3 p1 p2 p3; obtain ⟨f6, g6⟩ := q6) <;> refine ⟨_, rfl, ?_⟩)
    · rename_i h
      have h' : q - 1 = 0 := by simpa using h
      have := HQ.out
      exact ⟨_, q1, q2, q3, rfl, S2, fun _ => Iff.rfl, q4, .inr ⟨by omega, p4⟩, trivial⟩
    · rename_i h
      have h' : q - 1 ≠ 0 := by simpa using h
      have := HQ.out
      exact ⟨_, q1, q2, q3, S2, fun _ => Iff.rfl, q4, p4, by omega, q5, by rw [HE.out]; exact ⟨f6, g6⟩⟩
    · exact ⟨_, q1, q2, q3, rfl, S2, fun _ => Iff.rfl, q4, .inl ⟨by omega, p4⟩, trivial⟩
  case done =>
    rintro S' W' hg hi hc ⟨S0, hT, hn, hj, hkm, d1, d2⟩ ⟨d5, d6⟩ hK hnD'
    obtain ⟨d3, d4, _⟩ := hro W' hc
    have e0 : N = xs.length := by rw [← HN.out, List.length_take]; omega
    have fin : ∀ W'', Chg (fun b => b = w2.heap.size) W' W'' → W''.heap.size = W'.heap.size → GPost S Mms J Jx (fun k W => Cell W cn (Value.int .i64 ((m : Int))) ∧ Cell W cs sv ∧ Qs k W) N W (.returned (.tuple #[])) W'' := fun W'' hch hsz => by
      obtain ⟨t1, t2, t3, t4, t5, t6, t7⟩ := sep_fin (Mm := Mms) hch2 hg hi hc hT hn hnD' (fun b hb x => by omega) (fun b x => x) hch hsz
      rw [hD] at t7
      refine ⟨_, S0, rfl, t1, t2, t3, .inl ⟨by rw [e0]; exact hJ _ S0 W' W'' hj t5 (by omega) t6, d3.of (t7 _ hcnl), d4.of (t7 _ hcsl), by rw [e0]; exact hs.loc _ W' W'' d6 (fun b x => by have := hMD b (.inr (.inr x)); have := hc.size; omega) (by omega) (fun b x => t7 b (hMD b (.inr (.inr x))))⟩⟩
    clear e0
    gi_wp2_with fail
    rw [← hz2]
    exact (post_mark (fn := Try.f42) rfl hK fin).1
  case stop =>
    rintro c k S' W' hk0 hk hg hi hc ⟨rfl, S0, hT, hn, hj, _⟩ ⟨d5, d6⟩ hK hnD'
    obtain ⟨d3, d4, _⟩ := hro W' hc
    have fin : ∀ W'', Chg (fun b => b = w2.heap.size) W' W'' → W''.heap.size = W'.heap.size → GPost S Mms J Jx (fun k W => Cell W cn (Value.int .i64 ((m : Int))) ∧ Cell W cs sv ∧ Qs k W) N W (.returned (.tuple #[])) W'' := fun W'' hch hsz => by
      obtain ⟨t1, t2, t3, t4, t5, t6, t7⟩ := sep_fin (Mm := Mms) hch2 hg hi hc hT hn hnD' (fun b hb x => by omega) (fun b x => x) hch hsz
      rw [hD] at t7
      have hq' : Qs k W'' := hs.loc _ W' W'' d6 (fun b x => by have := hMD b (.inr (.inr x)); have := hc.size; omega) (by omega) (fun b x => t7 b (hMD b (.inr (.inr x))))
      rcases hj with ⟨h1, h2⟩ | ⟨h1, h2⟩
      · refine ⟨_, S0, rfl, t1, t2, t3, .inr ⟨k, hk0, by rw [← HN.out, List.length_take]; omega, hJx _ S0 W' W'' h2 t5 (by omega) t6, d3.of (t7 _ hcnl), d4.of (t7 _ hcsl), hq'⟩⟩
      · have e0 : N = k := by rw [← HN.out, List.length_take]; omega
        refine ⟨_, S0, rfl, t1, t2, t3, .inl ⟨by rw [e0]; exact hJ _ S0 W' W'' h2 t5 (by omega) t6, d3.of (t7 _ hcnl), d4.of (t7 _ hcsl), by rw [e0]; exact hq'⟩⟩
    gi_wp2_with fail
    rw [← hz2]
    exact (post_mark (fn := Try.f42) rfl hK fin).2

set_option maxHeartbeats 1000000 in
/-- **Skip's closure.** -/
theorem skip_gives (cn cs : Nat) (sv : Value) (n : Int) (hnlo : -9223372036854775808 ≤ n) (hnhi : n ≤ 9223372036854775807) (xs : List Int) (Ms Mms : Nat → Prop) (Qs : World → Prop) (hs : GivesO sv xs Ms Mms (fun _ => Qs))
    (hcs : ¬ Ms cs) (hcn : ¬ Ms cn) :
    Gives Try.prog (.func (.func 43) #[] #[(Value.pointer (some ⟨cn, 0, none⟩)), (Value.pointer (some ⟨cs, 0, none⟩))]) enc1 (xs.drop n.toNat) (fun b => b = cn ∨ b = cs ∨ Ms b) Mms
      (fun _ W => Cell W cn (Value.int .i64 (n)) ∧ Cell W cs sv ∧ Qs W) := by
  have hsub := hs.sub
  refine ⟨?_, ⟨43, _, rfl⟩, fun b x => .inr (.inr (hsub b x)), ?_⟩
  · rintro k W W' ⟨h1, h2, h3⟩ hM hsz hb
    exact ⟨h1.of (hb _ (.inl rfl)), h2.of (hb _ (.inr (.inl rfl))), hs.loc 0 W W' h3 (fun b x => hM b (.inr (.inr x))) hsz (fun b x => hb b (.inr (.inr x)))⟩
  rintro yf yb J Jx S W hJ hJx hS hM hSM ⟨⟨c1, g1⟩, ⟨c2, g2⟩, hq⟩ h0 hY
  refine .inl ⟨43, _, rfl, enters_of Try.func43 (by kernel_rfl) rfl, Calls.mono (R := GPost S Mms J Jx (fun _ W => Cell W cn (Value.int .i64 (n)) ∧ Cell W cs sv ∧ Qs W) (xs.drop n.toNat).length W) ?_ (fun _ _ h => h)⟩
  have hcnl : cn < W.heap.size := hM cn (.inl rfl)
  have hcsl : cs < W.heap.size := hM cs (.inr (.inl rfl))
  have hfv := hs.fv
  obtain ⟨m, hm⟩ : ∃ m : Nat, n.toNat = m := ⟨_, rfl⟩
  rw [hm] at hY ⊢
  obtain ⟨N, hN⟩ : ∃ N, (xs.drop m).length = N := ⟨_, rfl⟩
  rw [hN]
  have HN : Hid ((xs.drop m).length = N) := Lib.hid hN
  have HM : Hid (n.toNat = m) := Lib.hid hm
  clear hN hm
  refine (callsIn_wide (n := 0)).1 ?_
  refine callsIn_of_wp_marks Try.func43 rfl trivial ?_ rfl
  simp only [Try.ntmps43, List.size_toArray, List.length_cons, List.length_nil, Nat.reduceAdd, Nat.reduceSub, Array.replicate_succ, Array.replicate_zero, List.push_toArray, List.append_toArray, List.nil_append, List.cons_append]
  gi_wp2_with (gi_at_call 38; refine (callsIn_wide.2 (tame_any sv hfv _)).mono ?_; rintro e w1 ⟨rfl, rfl⟩)
  obtain ⟨D, hD⟩ : ∃ D, W.heap.size = D := ⟨_, rfl⟩
  obtain ⟨w2, hw2⟩ : ∃ w2, (((W.alloc (.cells #[.func yf #[] yb] 34)).alloc (.cells #[(Value.int .i64 (n))] 3)).alloc (.cells #[sv] 26)) = w2 := ⟨_, rfl⟩
  have hz2 : w2.heap.size = D + 3 := by rw [← hw2]; simp [hD]
  have hch2 : Chg (fun _ => False) W w2 := by rw [← hw2]; exact (((Chg.refl _ W).alloc _).alloc _).alloc _
  have hcD : Cell w2 D (.func yf #[] yb) := by rw [← hw2, ← hD]; exact ((Cell.new W _ _).alloc _).alloc _
  have hcL : Cell w2 (D + 1) (Value.int .i64 (n)) := by rw [← hw2, ← hD]; exact (Cell.new2 W _ _ _).alloc _
  have hcT : Cell w2 (D + 2) sv := by
    rw [← hw2, ← hD]; have := Cell.new2 (W.alloc (.cells #[.func yf #[] yb] 34)) (.cells #[(Value.int .i64 (n))] 3) sv 26
    rw [World.size_alloc] at this; exact this
  rw [hw2, hD, show D + 1 + 1 = D + 2 from rfl]
  rw [hD] at hcnl hcsl
  have hold : ∀ b, b < D → w2.heap[b]? = W.heap[b]? := fun b hb => hch2.block b (by omega) (fun x => x)
  have hMD : ∀ b, (b = cn ∨ b = cs ∨ Ms b) → b < D := fun b x => by rw [← hD]; exact hM b x
  have hSD : ∀ b, S b → b < D := fun b x => by rw [← hD]; exact hS b x
  have hro : ∀ W1, Chg (fun b => (S b ∨ (b = D ∨ b = D + 1)) ∨ Mms b) w2 W1 → Cell W1 cn (Value.int .i64 (n)) ∧ Cell W1 cs sv ∧ Chg (fun b => S b ∨ Mms b) W W1 := fun W1 hc => by
    refine ⟨Cell.of ⟨c1, g1⟩ ((hc.block cn (by omega) ?_).trans (hold cn hcnl)), Cell.of ⟨c2, g2⟩ ((hc.block cs (by omega) ?_).trans (hold cs hcsl)), hch2.trans hc (fun _ _ x => x.elim) (fun b hb x => ?_)⟩
    · rintro ((x | x) | x)
      · exact hSM cn x (.inl rfl)
      · omega
      · exact hcn (hsub cn x)
    · rintro ((x | x) | x)
      · exact hSM cs x (.inr (.inl rfl))
      · omega
      · exact hcs (hsub cs x)
    · rcases x with (x | x) | x
      · exact .inl x
      · omega
      · exact .inr x
  clear hw2
  refine wpIn_rangeFunc_sep (sv := .func (.func 49) #[] #[(Value.pointer (some ⟨D + 2, 0, none⟩))]) rfl (tame_gives (D + 2) sv xs Ms Mms (fun _ => Qs) hs (fun x => by have := hMD _ (.inr (.inr x)); omega)) (fun _ => rfl)
    (fun k => Plus (fun b => b = D ∨ b = D + 1) (J (k - m)) (fun W => Cell W D (.func yf #[] yb) ∧ Cell W (D + 1) (Value.int .i64 (n - ((min k m : Nat) : Int)))))
    (fun c k T W => c = .ret ∧ m < k ∧ Plus (fun b => b = D ∨ b = D + 1) (Jx (k - m)) (fun _ => True) T W)
    (fun k => Plus.loc (hJ _) ?l1) (fun c k => ?l2) (fun b => S b ∨ (b = D ∨ b = D + 1)) ?hS ?hM ?hSM ?hQ ?h0
    (fun x => { tmps := #[.func yf #[] yb, (Value.pointer (some ⟨cn, 0, none⟩)), (Value.pointer (some ⟨cs, 0, none⟩)), (Value.pointer (some ⟨D, 0, none⟩)), (Value.pointer (some ⟨D + 1, 0, none⟩)), (Value.int .i64 (x)), (Value.int .i64 (n)), sv, .func (.func 49) #[] #[(Value.pointer (some ⟨D + 2, 0, none⟩))], (Value.int .i64 (x)), undef, undef, undef, undef, undef, undef, undef, undef], defers := [] }) ?assign ?body ?done ?stop
  case l1 =>
    rintro A B ⟨a1, a2⟩ hin hsz hb
    exact ⟨a1.of (hb _ (.inl rfl)), a2.of (hb _ (.inr rfl))⟩
  case l2 =>
    rintro T A B ⟨rfl, h1, h⟩ hin hsz hb
    exact ⟨rfl, h1, Plus.loc (hJx _) (fun A B _ _ _ _ => trivial) T A B h hin hsz hb⟩
  case hS =>
    rintro b (x | x | x)
    · have := hSD b x; omega
    all_goals omega
  case hM =>
    rintro b (x | x)
    · omega
    · have := hMD b (.inr (.inr x)); omega
  case hSM =>
    rintro b (x | x | x) (y | y)
    · have := hSD b x; omega
    · exact hSM b x (.inr (.inr y))
    · omega
    · have := hMD b (.inr (.inr y)); omega
    · omega
    · have := hMD b (.inr (.inr y)); omega
  case hQ => exact ⟨hcT, hs.loc 0 W w2 hq (fun b x => hM b (.inr (.inr x))) (by omega) (fun b x => hold b (hMD b (.inr (.inr x))))⟩
  case h0 =>
    refine ⟨S, fun _ => Iff.rfl, ?_, hJ _ S W w2 (by simpa using h0) hS (by omega) (fun b x => hold b (hSD b x)), hcD, by simpa using hcL⟩
    rintro b (x | x) hs
    · have := hSD b hs; omega
    · have := hSD b hs; omega
  case assign =>
    intro l x W K hK
    dsimp only [enc1]
    gi_wp2
    exact hK
  case body =>
    rintro l k hk T W1 hin hchg ⟨T0, hT, hn, hj, hd1, hd2⟩
    obtain ⟨hd3, hd4, hcW⟩ := hro W1 hchg
    have hsz := hchg.size
    obtain ⟨q, hqe⟩ : ∃ q : Int, n - ((min k m : Nat) : Int) = q := ⟨_, rfl⟩
    rw [hqe] at hd2
    have hm := HM.out
    have hin0 : InW T0 W1 := fun b x => hin b ((hT b).2 (.inl x))
    by_cases hkm : k < m
    · have hq1 : 0 < q := by omega
      have hq2 : q ≤ 9223372036854775807 := by omega
      have hq3 : n - ((min (k + 1) m : Nat) : Int) = q - 1 := by omega
      have hq4 : k + 1 - m = k - m := by omega
      have HE : Hid (n - ((min (k + 1) m : Nat) : Int) = q - 1) := Lib.hid hq3
      have HF : Hid (k + 1 - m = k - m) := Lib.hid hq4
      have hcw : Chg T W1 (W1.setCell ⟨D + 1, 0, none⟩ (Value.int .i64 (q - 1))) := (Chg.refl T W1).setCell (fun _ => (hT _).2 (.inr (.inr rfl))) _
      have hzw := hcw.size
      have hk0 : ∀ b, b ≠ D + 1 → (W1.setCell ⟨D + 1, 0, none⟩ (Value.int .i64 (q - 1))).heap[b]? = W1.heap[b]? := fun b hb => Below.heap_setCell _ _ _ _ hb
      have hend : sepPost (fun k => Plus (fun b => b = D ∨ b = D + 1) (J (k - m)) (fun W => Cell W D (.func yf #[] yb) ∧ Cell W (D + 1) (Value.int .i64 (n - ((min k m : Nat) : Int)))))
          (fun c k T W => c = .ret ∧ m < k ∧ Plus (fun b => b = D ∨ b = D + 1) (Jx (k - m)) (fun _ => True) T W) (k + 1) T W1 .normal { tmps := #[], defers := [] } (W1.setCell ⟨D + 1, 0, none⟩ (Value.int .i64 (q - 1))) := by
        refine ⟨T, .refl _ _, hin.later hzw, hcw, T0, hT, hn, ?_, hd1.of (hk0 _ (by omega)), ?_⟩
        · rw [HF.out]; exact hJ _ T0 W1 _ hj hin0 hzw (fun b x => hk0 b (fun e => hn b (.inr e) x))
        · rw [HE.out]; exact hd2.set _
      obtain ⟨d1, e1⟩ := hd1
      obtain ⟨d2, e2⟩ := hd2
      clear hY hj hqe hq3 hq4 hcw hd3 hd4 hcW hk0 hm
      gi_wp2_with fail
      exact hend
    · have hq1 : ¬ 0 < q := by omega
      have hq1' : q ≤ 0 := by omega
      have hq3 : n - ((min (k + 1) m : Nat) : Int) = q := by omega
      have hq4 : k + 1 - m = k - m + 1 := by omega
      have HE : Hid (n - ((min (k + 1) m : Nat) : Int) = q) := Lib.hid hq3
      have HF : Hid (k + 1 - m = k - m + 1) := Lib.hid hq4
      have hlt : k - m < (xs.drop m).length := by rw [List.length_drop]; omega
      have hy := hY (k - m) hlt T0 W1 hin0 hcW hj
      have hget : (xs.drop m)[k - m] = xs[k] := by rw [List.getElem_drop]; congr 1; omega
      rw [hget] at hy
      have hpost : ∀ S2 W3, Grows T0 S2 W1 → InW S2 W3 → Chg T0 W1 W3 →
          Grows T (fun b => S2 b ∨ (b = D ∨ b = D + 1)) W1 ∧ InW (fun b => S2 b ∨ (b = D ∨ b = D + 1)) W3 ∧ Chg T W1 W3 ∧ (∀ b, (b = D ∨ b = D + 1) → ¬ S2 b) ∧ Cell W3 D (.func yf #[] yb) ∧ Cell W3 (D + 1) (Value.int .i64 (q)) := fun S2 W3 p1 p2 p3 => by
        obtain ⟨s1, s2, s3, s4, s5⟩ := Plus.step hT hn hin p1 p2 p3
        exact ⟨s1, s2, s3, s4, hd1.of (s5 _ (.inl rfl)), hd2.of (s5 _ (.inr rfl))⟩
      obtain ⟨d1, e1⟩ := hd1
      obtain ⟨d2, e2⟩ := hd2
      clear hY hj hget hqe hq3 hq4 hd3 hd4 hcW hlt hm
      gi_wp2_with ((with_reducible refine wpListIn_callV ?_ ?_ (.func yf #[] yb) [(Value.int .i64 (xs[k]))] ?_ ?_ ?_); rfl; rfl; rfl; rfl; refine hy.mono ?_; clear hy; rintro e W3 ⟨S2, p1, p2, p3, (⟨rfl, p4⟩ | ⟨rfl, p4⟩)⟩ <;> (obtain ⟨q1, q2, q3, q4, q5, q6⟩ := hpost S2 W3 p1 p2 p3) <;> refine ⟨_, rfl, ?_⟩)
      · exact ⟨_, q1, q2, q3, S2, fun _ => Iff.rfl, q4, by rw [HF.out]; exact p4, q5, by rw [HE.out]; exact q6⟩
      · exact ⟨_, q1, q2, q3, rfl, by omega, S2, fun _ => Iff.rfl, q4, by rw [HF.out]; exact p4, trivial⟩
  case done =>
    rintro S' W' hg hi hc ⟨S0, hT, hn, hj, d1, d2⟩ ⟨d5, d6⟩ hK hnD'
    obtain ⟨d3, d4, _⟩ := hro W' hc
    have fin : ∀ W'', Chg (fun b => b = w2.heap.size) W' W'' → W''.heap.size = W'.heap.size → GPost S Mms J Jx (fun _ W => Cell W cn (Value.int .i64 (n)) ∧ Cell W cs sv ∧ Qs W) N W (.returned (.tuple #[])) W'' := fun W'' hch hsz => by
      have e0 : N = xs.length - m := by rw [← HN.out, List.length_drop]
      obtain ⟨t1, t2, t3, t4, t5, t6, t7⟩ := sep_fin (Mm := Mms) hch2 hg hi hc hT hn hnD' (fun b hb x => by omega) (fun b x => x) hch hsz
      rw [hD] at t7
      refine ⟨_, S0, rfl, t1, t2, t3, .inl ⟨by rw [e0]; exact hJ _ S0 W' W'' hj t5 (by omega) t6, d3.of (t7 _ hcnl), d4.of (t7 _ hcsl), hs.loc 0 W' W'' d6 (fun b x => by have := hMD b (.inr (.inr x)); have := hc.size; omega) (by omega) (fun b x => t7 b (hMD b (.inr (.inr x))))⟩⟩
    gi_wp2_with fail
    rw [← hz2]
    exact (post_mark (fn := Try.f43) rfl hK fin).1
  case stop =>
    rintro c k S' W' hk0 hk hg hi hc ⟨rfl, hmk, S0, hT, hn, hj, _⟩ ⟨d5, d6⟩ hK hnD'
    obtain ⟨d3, d4, _⟩ := hro W' hc
    have fin : ∀ W'', Chg (fun b => b = w2.heap.size) W' W'' → W''.heap.size = W'.heap.size → GPost S Mms J Jx (fun _ W => Cell W cn (Value.int .i64 (n)) ∧ Cell W cs sv ∧ Qs W) N W (.returned (.tuple #[])) W'' := fun W'' hch hsz => by
      have e0 : N = xs.length - m := by rw [← HN.out, List.length_drop]
      obtain ⟨t1, t2, t3, t4, t5, t6, t7⟩ := sep_fin (Mm := Mms) hch2 hg hi hc hT hn hnD' (fun b hb x => by omega) (fun b x => x) hch hsz
      rw [hD] at t7
      refine ⟨_, S0, rfl, t1, t2, t3, .inr ⟨k - m, by omega, by omega, hJx _ S0 W' W'' hj t5 (by omega) t6, d3.of (t7 _ hcnl), d4.of (t7 _ hcsl), hs.loc 0 W' W'' d6 (fun b x => by have := hMD b (.inr (.inr x)); have := hc.size; omega) (by omega) (fun b x => t7 b (hMD b (.inr (.inr x))))⟩⟩
    gi_wp2_with fail
    rw [← hz2]
    exact (post_mark (fn := Try.f43) rfl hK fin).2
end Go.Proofs.Ytjlnfeableleeaa
