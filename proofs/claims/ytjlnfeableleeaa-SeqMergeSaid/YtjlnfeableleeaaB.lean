import Derived.Test.YtjlnfeableleeaaA
import Derived.Test.YtjlnfeableleeaaParIn
namespace Go.Proofs.Ytjlnfeableleeaa
open Go Go.RowKit Go.Shelf Go.Proofs
attribute [local go_sem] Oper.semAt_some
attribute [local go_sem] eql26n eql26f eql32f eql34f eql37f eql42n eql42f

theorem wide_fn (f : FuncId) : Fence.wide.fn f = True := rfl
theorem wide_depth : Fence.wide.depth = none := rfl
attribute [local go_sem] wide_fn wide_depth

/-- A function's value, or nil. -/
def Fv (sv : Value) : Prop := sv = .nilFunc ∨ ∃ g lb, sv = .func (.func g) #[] lb
theorem GivesO.fv {sv : Value} {xs : List Int} {M Mm : Nat → Prop} {Q : Nat → World → Prop} (h : GivesO sv xs M Mm Q) : Fv sv := by
  rcases h with h | ⟨h, _⟩
  · exact .inr h.2.1
  · exact .inl h

set_option maxHeartbeats 1000000 in
theorem tame_any (sv : Value) (hv : Fv sv) (W : World) : Calls Try.prog 38 #[sv] W fun e W' => e = .returned (.func (.func 49) #[] #[(Value.pointer (some ⟨W.heap.size, 0, none⟩))]) ∧ W' = W.alloc (.cells #[sv] 26) := by
  rcases hv with rfl | ⟨g, lb, rfl⟩
  all_goals
    go_enter Try.func38, Try.ntmps38
    go_wp2
    go_ret
    exact ⟨rfl, rfl⟩

set_option maxHeartbeats 1000000 in
theorem map_any (sv : Value) (hv : Fv sv) (g : Nat) (lb : Array Value) (W : World) : Calls Try.prog 14 #[sv, .func (.func g) #[] lb] W fun e W' =>
    e = .returned (.func (.func 40) #[] #[(Value.pointer (some ⟨W.heap.size + 1, 0, none⟩)), (Value.pointer (some ⟨W.heap.size, 0, none⟩))]) ∧ W' = (W.alloc (.cells #[sv] 26)).alloc (.cells #[.func (.func g) #[] lb] 32) := by
  rcases hv with rfl | ⟨g', lb', rfl⟩
  all_goals
    go_enter Try.func14, Try.ntmps14
    go_wp2
    go_ret
    exact ⟨rfl, rfl⟩

set_option maxHeartbeats 1000000 in
theorem keep_any (sv : Value) (hv : Fv sv) (g : Nat) (lb : Array Value) (W : World) : Calls Try.prog 16 #[sv, .func (.func g) #[] lb] W fun e W' =>
    e = .returned (.func (.func 41) #[] #[(Value.pointer (some ⟨W.heap.size + 1, 0, none⟩)), (Value.pointer (some ⟨W.heap.size, 0, none⟩))]) ∧ W' = (W.alloc (.cells #[sv] 26)).alloc (.cells #[.func (.func g) #[] lb] 34) := by
  rcases hv with rfl | ⟨g', lb', rfl⟩
  all_goals
    go_enter Try.func16, Try.ntmps16
    go_wp2
    go_ret
    exact ⟨rfl, rfl⟩

set_option maxHeartbeats 1000000 in
theorem take_any (sv : Value) (hv : Fv sv) (n : Int) (W : World) : Calls Try.prog 18 #[sv, (Value.int .i64 (n))] W fun e W' =>
    e = .returned (.func (.func 42) #[] #[(Value.pointer (some ⟨W.heap.size + 1, 0, none⟩)), (Value.pointer (some ⟨W.heap.size, 0, none⟩))]) ∧ W' = (W.alloc (.cells #[sv] 26)).alloc (.cells #[(Value.int .i64 (n))] 3) := by
  rcases hv with rfl | ⟨g', lb', rfl⟩
  all_goals
    go_enter Try.func18, Try.ntmps18
    go_wp2
    go_ret
    exact ⟨rfl, rfl⟩

set_option maxHeartbeats 1000000 in
theorem skip_any (sv : Value) (hv : Fv sv) (n : Int) (W : World) : Calls Try.prog 19 #[sv, (Value.int .i64 (n))] W fun e W' =>
    e = .returned (.func (.func 43) #[] #[(Value.pointer (some ⟨W.heap.size + 1, 0, none⟩)), (Value.pointer (some ⟨W.heap.size, 0, none⟩))]) ∧ W' = (W.alloc (.cells #[sv] 26)).alloc (.cells #[(Value.int .i64 (n))] 3) := by
  rcases hv with rfl | ⟨g', lb', rfl⟩
  all_goals
    go_enter Try.func19, Try.ntmps19
    go_wp2
    go_ret
    exact ⟨rfl, rfl⟩

set_option maxHeartbeats 1000000 in
/-- **Map's closure.** f's own blocks Mf: f may turn them. -/
theorem map_gives (cf cs : Nat) (sv : Value) (gf : Nat) (lf : Array Value) (xs ys : List Int) (hl : ys.length = xs.length) (Ms Mms : Nat → Prop) (Qs : Nat → World → Prop) (hs : GivesO sv xs Ms Mms Qs)
    (Mf : Nat → Prop) (Qf : Nat → World → Prop) (hQf : ∀ k W W', Qf k W → InW Mf W → W.heap.size ≤ W'.heap.size → (∀ b, Mf b → W'.heap[b]? = W.heap[b]?) → Qf k W')
    (Mr : Nat → Prop) (Qr : World → Prop) (hQr : ∀ W W', Qr W → InW Mr W → W.heap.size ≤ W'.heap.size → (∀ b, Mr b → W'.heap[b]? = W.heap[b]?) → Qr W')
    (hf : ∀ k (hk : k < xs.length) W, InW Mf W → Qf k W → Qr W → CallsV Try.prog (.func (.func gf) #[] lf) (enc1 xs[k]) W fun e W' => e = .returned (Value.int .i64 (ys[k]?.getD 0)) ∧ Chg Mf W W' ∧ Qf (k + 1) W')
    (hdis : ∀ b, Mf b → ¬ Ms b ∧ b ≠ cf ∧ b ≠ cs) (hdr : ∀ b, Mr b → ¬ Mf b ∧ ¬ Mms b) (hcs : ¬ Ms cs) (hcf : ¬ Ms cf) :
    Gives Try.prog (.func (.func 40) #[] #[(Value.pointer (some ⟨cf, 0, none⟩)), (Value.pointer (some ⟨cs, 0, none⟩))]) enc1 ys (fun b => b = cf ∨ b = cs ∨ Ms b ∨ Mf b ∨ Mr b) (fun b => Mms b ∨ Mf b)
      (fun k W => Cell W cf (.func (.func gf) #[] lf) ∧ Cell W cs sv ∧ Qs k W ∧ Qf k W ∧ Qr W) := by
  have hsub := hs.sub
  refine ⟨?_, ⟨40, _, rfl⟩, fun b x => by rcases x with x | x; (· exact .inr (.inr (.inl (hsub b x)))); exact .inr (.inr (.inr (.inl x))), ?_⟩
  · rintro k W W' ⟨h1, h2, h3, h4, h5⟩ hM hsz hb
    exact ⟨h1.of (hb _ (.inl rfl)), h2.of (hb _ (.inr (.inl rfl))), hs.loc k W W' h3 (fun b x => hM b (.inr (.inr (.inl x)))) hsz (fun b x => hb b (.inr (.inr (.inl x)))),
      hQf k W W' h4 (fun b x => hM b (.inr (.inr (.inr (.inl x))))) hsz (fun b x => hb b (.inr (.inr (.inr (.inl x))))), hQr W W' h5 (fun b x => hM b (.inr (.inr (.inr (.inr x))))) hsz (fun b x => hb b (.inr (.inr (.inr (.inr x)))))⟩
  rintro yf yb J Jx S W hJ hJx hS hM hSM ⟨⟨c1, g1⟩, ⟨c2, g2⟩, hq, hqf, hqr⟩ h0 hY
  refine .inl ⟨40, _, rfl, enters_of Try.func40 (by kernel_rfl) rfl, Calls.mono (R := GPost S (fun b => Mms b ∨ Mf b) J Jx (fun k W => Cell W cf (.func (.func gf) #[] lf) ∧ Cell W cs sv ∧ Qs k W ∧ Qf k W ∧ Qr W) ys.length W) ?_ (fun _ _ h => h)⟩
  have hcfl : cf < W.heap.size := hM cf (.inl rfl)
  have hcsl : cs < W.heap.size := hM cs (.inr (.inl rfl))
  have hfv := hs.fv
  refine (callsIn_wide (n := 0)).1 ?_
  refine callsIn_of_wp_marks Try.func40 rfl trivial ?_ rfl
  simp only [Try.ntmps40, List.size_toArray, List.length_cons, List.length_nil, Nat.reduceAdd, Nat.reduceSub, Array.replicate_succ, Array.replicate_zero, List.push_toArray, List.append_toArray, List.nil_append, List.cons_append]
  gi_wp2_with (gi_at_call 38; refine (callsIn_wide.2 (tame_any sv hfv _)).mono ?_; rintro e w1 ⟨rfl, rfl⟩)
  obtain ⟨D, hD⟩ : ∃ D, W.heap.size = D := ⟨_, rfl⟩
  obtain ⟨w2, hw2⟩ : ∃ w2, (W.alloc (.cells #[.func yf #[] yb] 34)).alloc (.cells #[sv] 26) = w2 := ⟨_, rfl⟩
  have hz2 : w2.heap.size = D + 2 := by rw [← hw2]; simp [hD]
  have hch2 : Chg (fun _ => False) W w2 := by rw [← hw2]; exact ((Chg.refl _ W).alloc _).alloc _
  have hcD : Cell w2 D (.func yf #[] yb) := by rw [← hw2, ← hD]; exact (Cell.new W _ _).alloc _
  have hcT : Cell w2 (D + 1) sv := by rw [← hw2, ← hD]; exact Cell.new2 W _ _ _
  rw [hw2, hD]
  rw [hD] at hcfl hcsl
  have hold : ∀ b, b < D → w2.heap[b]? = W.heap[b]? := fun b hb => hch2.block b (by omega) (fun x => x)
  have hMD' : ∀ b, (b = cf ∨ b = cs ∨ Ms b ∨ Mf b ∨ Mr b) → b < D := fun b x => by rw [← hD]; exact hM b x
  have hMD : ∀ b, (b = cf ∨ b = cs ∨ Ms b ∨ Mf b) → b < D := fun b x => hMD' b (by rcases x with x | x | x | x; (· exact .inl x); (· exact .inr (.inl x)); (· exact .inr (.inr (.inl x))); exact .inr (.inr (.inr (.inl x))))
  have hRD : ∀ b, Mr b → b < D := fun b x => hMD' b (.inr (.inr (.inr (.inr x))))
  have hSD : ∀ b, S b → b < D := fun b x => by rw [← hD]; exact hS b x
  have hro : ∀ W1, Chg (fun b => (S b ∨ (b = D ∨ Mf b)) ∨ Mms b) w2 W1 → Cell W1 cf (.func (.func gf) #[] lf) ∧ Cell W1 cs sv ∧ Qr W1 := fun W1 hc => by
    refine ⟨Cell.of ⟨c1, g1⟩ ((hc.block cf (by omega) ?_).trans (hold cf hcfl)), Cell.of ⟨c2, g2⟩ ((hc.block cs (by omega) ?_).trans (hold cs hcsl)), hQr W W1 hqr (fun b x => by have := hRD b x; omega) (by have := hc.size; omega) (fun b x => (hc.block b (by have := hRD b x; omega) ?_).trans (hold b (hRD b x)))⟩
    · rintro ((x | x | x) | x)
      · exact hSM cf x (.inl rfl)
      · omega
      · exact (hdis cf x).2.1 rfl
      · exact hcf (hsub cf x)
    · rintro ((x | x | x) | x)
      · exact hSM cs x (.inr (.inl rfl))
      · omega
      · exact (hdis cs x).2.2 rfl
      · exact hcs (hsub cs x)
    · rintro ((y | y | y) | y)
      · exact hSM b y (.inr (.inr (.inr (.inr x))))
      · have := hRD b x; omega
      · exact (hdr b x).1 y
      · exact (hdr b x).2 y
  clear hw2
  refine wpIn_rangeFunc_sep (sv := .func (.func 49) #[] #[(Value.pointer (some ⟨D + 1, 0, none⟩))]) rfl (tame_gives (D + 1) sv xs Ms Mms Qs hs (fun x => by have := hMD _ (.inr (.inr (.inl x))); omega)) (fun _ => rfl)
    (fun k => Plus (fun b => b = D ∨ Mf b) (J k) (fun W => Cell W D (.func yf #[] yb) ∧ Qf k W))
    (fun c k T W => c = .ret ∧ Plus (fun b => b = D ∨ Mf b) (Jx k) (fun W => Qf k W) T W)
    (fun k => Plus.loc (hJ k) ?l1) (fun c k => ?l2) (fun b => S b ∨ (b = D ∨ Mf b)) ?hS ?hM ?hSM ?hQ ?h0
    (fun x => { tmps := #[.func yf #[] yb, (Value.pointer (some ⟨cf, 0, none⟩)), (Value.pointer (some ⟨cs, 0, none⟩)), (Value.pointer (some ⟨D, 0, none⟩)), (Value.int .i64 (x)), .func (.func gf) #[] lf, .bool false, sv, .func (.func 49) #[] #[(Value.pointer (some ⟨D + 1, 0, none⟩))], (Value.int .i64 (x)), undef, undef, undef, undef, undef, undef], defers := [] }) ?assign ?body ?done ?stop
  case l1 =>
    rintro A B ⟨a1, a3⟩ hin hsz hb
    exact ⟨a1.of (hb _ (.inl rfl)), hQf k A B a3 (fun b x => hin b (.inr x)) hsz (fun b x => hb b (.inr x))⟩
  case l2 =>
    rintro T A B ⟨rfl, h⟩ hin hsz hb
    exact ⟨rfl, Plus.loc (hJx k) (fun A B a3 hin hsz hb => hQf k A B a3 (fun b x => hin b (.inr x)) hsz (fun b x => hb b (.inr x))) T A B h hin hsz hb⟩
  case hS =>
    rintro b (x | x | x)
    · have := hSD b x; omega
    · omega
    · have := hMD b (.inr (.inr (.inr x))); omega
  case hM =>
    rintro b (x | x)
    · omega
    · have := hMD b (.inr (.inr (.inl x))); omega
  case hSM =>
    rintro b (x | x | x) (y | y)
    · have := hSD b x; omega
    · exact hSM b x (.inr (.inr (.inl y)))
    · omega
    · have := hMD b (.inr (.inr (.inl y))); omega
    · have := hMD b (.inr (.inr (.inr x))); omega
    · exact (hdis b x).1 y
  case hQ => exact ⟨hcT, hs.loc 0 W w2 hq (fun b x => hM b (.inr (.inr (.inl x)))) (by omega) (fun b x => hold b (hMD b (.inr (.inr (.inl x)))))⟩
  case h0 =>
    refine ⟨S, fun _ => Iff.rfl, ?_, hJ 0 S W w2 h0 hS (by omega) (fun b x => hold b (hSD b x)), hcD, hQf 0 W w2 hqf (fun b x => hM b (.inr (.inr (.inr (.inl x))))) (by omega) (fun b x => hold b (hMD b (.inr (.inr (.inr x)))))⟩
    rintro b (x | x) hs
    · have := hSD b hs; omega
    · exact hSM b hs (.inr (.inr (.inr (.inl x))))
  case assign =>
    intro l x W K hK
    dsimp only [enc1]
    gi_wp2
    exact hK
  case body =>
    rintro l k hk T W1 hin hchg ⟨T0, hT, hn, hj, ⟨d1, e1⟩, hq1⟩
    obtain ⟨⟨d2, e2⟩, _, hqr1⟩ := hro W1 hchg
    have hsz := hchg.size
    gi_wp2_with fail
    have hk' : k < ys.length := by omega
    have hDT : ∀ b, (b = D ∨ Mf b) → b < W1.heap.size := fun b x => hin b ((hT b).2 (.inr x))
    have hnD : ¬ Mf D := fun x => by have := hMD D (.inr (.inr (.inr x))); omega
    have hnc : ¬ Mf cf := fun x => (hdis cf x).2.1 rfl
    refine wpIn_region_par (m := 0) rfl 4 [.func yf #[] yb, .func (.func gf) #[] lf, (Value.int .i64 (xs[k])), (Value.int .i64 (ys[k]))] (fun listed w => Chg Mf W1 w ∧ (if listed.getD 3 false = true then Qf (k + 1) w else Qf k w))
      { tmps := #[.func yf #[] yb, (Value.pointer (some ⟨cf, 0, none⟩)), (Value.pointer (some ⟨cs, 0, none⟩)), (Value.pointer (some ⟨D, 0, none⟩)), (Value.int .i64 (xs[k])), .func (.func gf) #[] lf, .bool false, sv, .func (.func 49) #[] #[(Value.pointer (some ⟨D + 1, 0, none⟩))], (Value.int .i64 (xs[k])), .func yf #[] yb, .func (.func gf) #[] lf, (Value.int .i64 (xs[k])), (Value.int .i64 (ys[k])), undef, undef], defers := [] }
      (by kernel_rfl) (by kernel_rfl) rfl (by kernel_rfl) ?r0 ?heads ?tail
    case r0 =>
      refine ⟨(Chg.refl _ _).drew, ?_⟩
      rw [getD_replicate_false]
      exact hQf k W1 _ hq1 (fun b x => hDT b (.inr x)) (Nat.le_refl _) (fun _ _ => rfl)
    case heads =>
      refine ⟨?a0, ?a1, ?a2, ?a3, trivial⟩
      case a0 =>
        rintro listed w hs hl ⟨b1, b2⟩
        have x1 : w.cell? ⟨D, 0, none⟩ = some (.func yf #[] yb) := (b1.cell (p := ⟨D, 0, none⟩) (hDT D (.inl rfl)) hnD).trans d1
        exact givesIn_value (by rfl) (by go_simp) ⟨b1, by rw [getD_set_ne false (by decide)]; exact b2⟩
      case a1 =>
        rintro listed w hs hl ⟨b1, b2⟩
        have x1 : w.cell? ⟨cf, 0, none⟩ = some (.func (.func gf) #[] lf) := (b1.cell (p := ⟨cf, 0, none⟩) (by show cf < _; omega) hnc).trans d2
        exact givesIn_value (by rfl) (by go_simp) ⟨b1, by rw [getD_set_ne false (by decide)]; exact b2⟩
      case a2 =>
        rintro listed w hs hl ⟨b1, b2⟩
        exact givesIn_value (by rfl) (by go_simp) ⟨b1, by rw [getD_set_ne false (by decide)]; exact b2⟩
      case a3 =>
        rintro listed w hs hl ⟨b1, b2⟩
        rw [getD_both hl] at b2
        unfold GivesIn
        rw [if_pos (by rfl)]
        refine uponGives_callV (.func (.func gf) #[] lf) [(Value.int .i64 (xs[k]))] rfl rfl ((hf k hk w (fun b x => by have := hDT b (.inr x); have := b1.size; omega) b2 (hQr W1 w hqr1 (fun b x => by have := hRD b x; omega) b1.size (fun b x => b1.block b (by have := hRD b x; omega) (hdr b x).1))).mono ?_)
        rintro e W' ⟨rfl, f1, f2⟩
        refine ⟨by simp [hk'], b1.trans f1 (fun _ _ x => x) (fun _ _ x => x), ?_⟩
        have : (listed.setIfInBounds 3 true).getD 3 false = true := by
          have h3 : 3 < listed.size := by rw [hs]; decide
          simp [h3]
        rw [if_pos this]; exact f2
    case tail =>
      rintro w ⟨b1, b2⟩
      replace b2 : Qf (k + 1) w := b2
      dsimp only [List.drop]
      have hz := b1.size
      have hj2 : J k T0 w := hJ k T0 W1 w hj (fun b x => hin b ((hT b).2 (.inl x))) hz (fun b x => b1.block b (hin b ((hT b).2 (.inl x))) (fun y => hn b (.inr y) x))
      have hcW : Chg (fun b => S b ∨ (Mms b ∨ Mf b)) W w := (hch2.trans hchg (T := fun b => S b ∨ (Mms b ∨ Mf b)) (fun _ _ x => x.elim) (fun b hb x => by
        rcases x with (x | x | x) | x
        · exact .inl x
        · omega
        · exact .inr (.inr x)
        · exact .inr (.inl x))).trans b1 (fun _ _ x => x) (fun _ _ x => .inr (.inr x))
      have hy := hY k hk' T0 w (fun b x => by have := hin b ((hT b).2 (.inl x)); omega) hcW hj2
      have e1' : Cell w D (.func yf #[] yb) := Cell.of ⟨d1, e1⟩ (b1.block D (hDT D (.inl rfl)) hnD)
      have hpost : ∀ S2 W3, Grows T0 S2 w → InW S2 W3 → Chg T0 w W3 →
          Grows T (fun b => S2 b ∨ (b = D ∨ Mf b)) W1 ∧ InW (fun b => S2 b ∨ (b = D ∨ Mf b)) W3 ∧ Chg T W1 W3 ∧ (∀ b, (b = D ∨ Mf b) → ¬ S2 b) ∧ Cell W3 D (.func yf #[] yb) ∧ Qf (k + 1) W3 := fun S2 W3 p1 p2 p3 => by
        obtain ⟨s1, s2, s3, s4, s5⟩ := Plus.step hT hn (hin.later hz) p1 p2 p3
        exact ⟨fun b x => (s1 b x).imp (fun y => y) (fun y => by omega), s2, b1.trans s3 (fun b _ x => (hT b).2 (.inr (.inr x))) (fun _ _ x => x), s4, e1'.of (s5 _ (.inl rfl)),
          hQf _ _ _ b2 (fun b x => by have := hDT b (.inr x); omega) p3.size (fun b x => s5 b (.inr x))⟩
      clear hY hf hj hj2
      gi_wp2_with ((with_reducible refine wpListIn_callV ?_ ?_ (.func yf #[] yb) [(Value.int .i64 (ys[k]))] ?_ ?_ ?_); rfl; rfl; rfl; rfl; refine hy.mono ?_; clear hy; rintro e W3 ⟨S2, p1, p2, p3, (⟨rfl, p4⟩ | ⟨rfl, p4⟩)⟩ <;> refine ⟨_, rfl, ?_⟩)
      · obtain ⟨q1, q2, q3, q4, q5, q7⟩ := hpost S2 W3 p1 p2 p3
        exact ⟨_, q1, q2, q3, S2, fun _ => Iff.rfl, q4, p4, q5, q7⟩
      · obtain ⟨q1, q2, q3, q4, q5, q7⟩ := hpost S2 W3 p1 p2 p3
        exact ⟨_, q1, q2, q3, rfl, S2, fun _ => Iff.rfl, q4, p4, q7⟩
  case done =>
    rintro S' W' hg hi hc ⟨S0, hT, hn, hj, d1, d3⟩ ⟨d4, d5⟩ hK hnD'
    obtain ⟨r1, r2, r3⟩ := hro W' hc
    have fin : ∀ W'', Chg (fun b => b = w2.heap.size) W' W'' → W''.heap.size = W'.heap.size → GPost S (fun b => Mms b ∨ Mf b) J Jx (fun k W => Cell W cf (.func (.func gf) #[] lf) ∧ Cell W cs sv ∧ Qs k W ∧ Qf k W ∧ Qr W) ys.length W (.returned (.tuple #[])) W'' := fun W'' hch hsz => by
      have hz' := hc.size
      obtain ⟨t1, t2, t3, t4, t5, t6, t7⟩ := sep_fin (Mm := fun b => Mms b ∨ Mf b) hch2 hg hi hc hT hn hnD' (fun b hb x => by rcases x with x | x; (· omega); exact .inr x) (fun b x => .inl x) hch hsz
      rw [hD] at t7
      refine ⟨_, S0, rfl, t1, t2, t3, .inl ⟨by rw [hl]; exact hJ _ S0 W' W'' hj t5 (by omega) t6, r1.of (t7 _ hcfl), r2.of (t7 _ hcsl), ?_, ?_, hQr W' W'' r3 (fun b x => by have := hRD b x; omega) (by omega) (fun b x => t7 b (hRD b x))⟩⟩
      · rw [hl]; exact hs.loc _ W' W'' d5 (fun b x => by have := hMD b (.inr (.inr (.inl x))); omega) (by omega) (fun b x => t7 b (hMD b (.inr (.inr (.inl x)))))
      · rw [hl]; exact hQf _ W' W'' d3 (fun b x => by have := hMD b (.inr (.inr (.inr x))); omega) (by omega) (fun b x => t7 b (hMD b (.inr (.inr (.inr x)))))
    gi_wp2_with fail
    rw [← hz2, ← hl]
    exact (post_mark (fn := Try.f40) rfl hK fin).1
  case stop =>
    rintro c k S' W' hk0 hk hg hi hc ⟨rfl, S0, hT, hn, hj, d3⟩ ⟨d4, d5⟩ hK hnD'
    obtain ⟨r1, r2, r3⟩ := hro W' hc
    have fin : ∀ W'', Chg (fun b => b = w2.heap.size) W' W'' → W''.heap.size = W'.heap.size → GPost S (fun b => Mms b ∨ Mf b) J Jx (fun k W => Cell W cf (.func (.func gf) #[] lf) ∧ Cell W cs sv ∧ Qs k W ∧ Qf k W ∧ Qr W) ys.length W (.returned (.tuple #[])) W'' := fun W'' hch hsz => by
      have hz' := hc.size
      obtain ⟨t1, t2, t3, t4, t5, t6, t7⟩ := sep_fin (Mm := fun b => Mms b ∨ Mf b) hch2 hg hi hc hT hn hnD' (fun b hb x => by rcases x with x | x; (· omega); exact .inr x) (fun b x => .inl x) hch hsz
      rw [hD] at t7
      refine ⟨_, S0, rfl, t1, t2, t3, .inr ⟨k, hk0, by omega, hJx _ S0 W' W'' hj t5 (by omega) t6, r1.of (t7 _ hcfl), r2.of (t7 _ hcsl), ?_, ?_, hQr W' W'' r3 (fun b x => by have := hRD b x; omega) (by omega) (fun b x => t7 b (hRD b x))⟩⟩
      · exact hs.loc _ W' W'' d5 (fun b x => by have := hMD b (.inr (.inr (.inl x))); omega) (by omega) (fun b x => t7 b (hMD b (.inr (.inr (.inl x)))))
      · exact hQf _ W' W'' d3 (fun b x => by have := hMD b (.inr (.inr (.inr x))); omega) (by omega) (fun b x => t7 b (hMD b (.inr (.inr (.inr x)))))
    gi_wp2_with fail
    rw [← hz2, ← hl]
    exact (post_mark (fn := Try.f40) rfl hK fin).2
end Go.Proofs.Ytjlnfeableleeaa
