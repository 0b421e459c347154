import Derived.Test.YtjlnfeableleeaaN
namespace Go.Proofs.Ytjlnfeableleeaa
open Go Go.RowKit Go.Shelf Go.Proofs
attribute [local go_sem] Oper.semAt_some
attribute [local go_sem] eql26n eql26f eql32f eql34f eql37f eql42n eql42f wide_fn wide_depth

set_option maxRecDepth 100000 in
set_option maxHeartbeats 2000000 in
/-- **Merge's closure.** -/
theorem merge_gives (o lb : Nat) (so : Value) (gf : Nat) (lf : Array Value) (key : Int → Int) (hless : Lss (.func (.func gf) #[] lf) key) (L : List Rest) (hL : L.length ≤ 1000000) (xs : List Int) (hmg : Mg key (L.map Rest.xs) xs) (B Bo : Nat → Prop) :
    Gives Try.prog (.func (.func 45) #[] #[(Value.pointer (some ⟨o, 0, none⟩)), (Value.pointer (some ⟨lb, 0, none⟩))]) enc1 xs (fun b => b = o ∨ b = lb ∨ Bo b ∨ B b) (fun _ => False)
      (fun _ W => Cell W o so ∧ Cell W lb (.func (.func gf) #[] lf) ∧ Vals W so ((L.map Rest.t).map enc3) Bo ∧ ∀ p, p ∈ L → Good W B p) := by
  have hloc : ∀ W W', (Cell W o so ∧ Cell W lb (.func (.func gf) #[] lf) ∧ Vals W so ((L.map Rest.t).map enc3) Bo ∧ ∀ p, p ∈ L → Good W B p) → (∀ b, (b = o ∨ b = lb ∨ Bo b ∨ B b) → W'.heap[b]? = W.heap[b]?) →
      (Cell W' o so ∧ Cell W' lb (.func (.func gf) #[] lf) ∧ Vals W' so ((L.map Rest.t).map enc3) Bo ∧ ∀ p, p ∈ L → Good W' B p) := by
    rintro W W' ⟨h1, h2, h3, h4⟩ hb
    exact ⟨h1.of (hb _ (.inl rfl)), h2.of (hb _ (.inr (.inl rfl))), h3.of (fun b x => hb b (.inr (.inr (.inl x)))), fun p hp => (h4 p hp).of (hb _ (.inr (.inr (.inr (h4 p hp).b))))⟩
  refine ⟨fun k W W' h hM hsz hb => hloc W W' h hb, ⟨45, _, rfl⟩, fun _ x => x.elim, ?_⟩
  rintro yf yb J Jx S W hJ hJx hS hM hSM hQ h0 hY
  refine .inl ⟨45, _, rfl, enters_of Try.func45 (by kernel_rfl) rfl, ?_⟩
  have hQ0 := Lib.hid hQ
  obtain ⟨⟨c1, g1⟩, hc2, hv, hg⟩ := hQ
  have hcl := clone46_any so (L.map Rest.t) Bo (by simpa using hL) W hv
  have hso : ∃ p k c, so = .slice p k c := by
    rcases hv with ⟨rfl, _⟩ | ⟨_, _, _, rfl, _⟩
    · exact ⟨_, _, _, rfl⟩
    · exact ⟨_, _, _, rfl⟩
  obtain ⟨p0, k0, c0, rfl⟩ := hso
  obtain ⟨R, hR⟩ : ∃ R : Ending → World → Prop, (fun e W' => ∃ v S', e = Ending.returned v ∧ Grows S S' W ∧ InW S' W' ∧ Chg (fun b => S b ∨ False) W W' ∧
      ((J xs.length S' W' ∧ (Cell W' o (.slice p0 k0 c0) ∧ Cell W' lb (.func (.func gf) #[] lf) ∧ Vals W' (.slice p0 k0 c0) ((L.map Rest.t).map enc3) Bo ∧ ∀ p, p ∈ L → Good W' B p)) ∨ ∃ k, 0 < k ∧ k ≤ xs.length ∧ Jx k S' W' ∧ (Cell W' o (.slice p0 k0 c0) ∧ Cell W' lb (.func (.func gf) #[] lf) ∧ Vals W' (.slice p0 k0 c0) ((L.map Rest.t).map enc3) Bo ∧ ∀ p, p ∈ L → Good W' B p))) = R := ⟨_, rfl⟩
  show Calls Try.prog 45 _ W _
  refine Calls.mono (R := R) ?_ (fun e w h => by rw [← hR] at h; exact h)
  have HR := Lib.hid hR
  clear hR
  have hQW : ∀ W', Chg (fun b => S b ∨ False) W W' → (Cell W' o (.slice p0 k0 c0) ∧ Cell W' lb (.func (.func gf) #[] lf) ∧ Vals W' (.slice p0 k0 c0) ((L.map Rest.t).map enc3) Bo ∧ ∀ p, p ∈ L → Good W' B p) := fun W' hc =>
    hloc W W' hQ0.out (fun b x => hc.block b (hM b x) (by rintro (y | y); (· exact hSM b y x); exact y))
  have hSW : ∀ T W', Grows S T W → InW T W' → Chg (fun b => S b ∨ False) W W' → J xs.length T W' → R (.returned (.tuple #[])) W' := fun T W' a1 a2 a3 a4 => by
    rw [← HR.out]; exact ⟨_, T, rfl, a1, a2, a3, .inl ⟨a4, hQW W' a3⟩⟩
  have hSX : ∀ k T W', 0 < k → k ≤ xs.length → Grows S T W → InW T W' → Chg (fun b => S b ∨ False) W W' → Jx k T W' → R (.returned (.tuple #[])) W' := fun k T W' k0 k1 a1 a2 a3 a4 => by
    rw [← HR.out]; exact ⟨_, T, rfl, a1, a2, a3, .inr ⟨k, k0, k1, a4, hQW W' a3⟩⟩
  have hlen0 : (L.map Rest.t).length = L.length := by simp
  have HHM := Lib.hid hM
  have HHS := Lib.hid hSM
  clear hv hM hSM hQW hloc
  refine (callsIn_wide (n := 0)).1 ?_
  refine callsIn_of_wp Try.func45 rfl trivial ?_ rfl
  simp only [Try.ntmps45, List.size_toArray, List.length_cons, List.length_nil, Nat.reduceAdd, Nat.reduceSub, Array.replicate_succ, Array.replicate_zero, List.push_toArray, List.append_toArray, List.nil_append, List.cons_append]
  gi_wp2_with (gi_at_call 46; refine (callsIn_wide.2 hcl).mono ?_; clear hcl; rintro e w2 ⟨hbel, (⟨hl, p, c, rfl⟩ | ⟨g, cap, rfl, hgW, hgl, hlc, hcap, hrow⟩)⟩)
  · have hL0 : L = [] := by simpa using hl
    have hx0 : xs = [] := by
      cases xs with
      | nil => rfl
      | cons x r =>
        obtain ⟨A, t, B', hAB, _⟩ := hmg
        rw [hL0] at hAB
        simp at hAB
    have hch : Chg (fun b => S b ∨ False) W w2 := Chg.of_below hbel
    have hfin := hSW S w2 (.refl _ _) (hS.later hbel.size) hch (by rw [hx0]; exact hJ 0 S W w2 h0 hS hbel.size (fun b x => hbel.block b (hS b x)))
    refine wpIn_loop_once ?_
    gi_wp2_with fail
    go_end0
    exact hfin
  · have hch2 : Chg (fun _ => False) W w2 := Chg.of_below hbel
    have hback : ∀ T T0 : Nat → Prop, (∀ b, T b ↔ T0 b ∨ b = g) → (∀ b, b = g → ¬ T0 b) → Grows (fun b => S b ∨ b = g) T w2 → Grows S T0 W := fun T T0 hT hn hg => Plus.back (w1 := w2) hbel.size hg hT hn
    have hchW : ∀ W', Chg (fun b => S b ∨ b = g) w2 W' → Chg (fun b => S b ∨ False) W W' := fun W' hc => hch2.trans hc (fun _ _ x => x.elim) (fun b hb x => by rcases x with x | x; (· exact .inl x); omega)
    rw [hlen0] at hlc
    refine wpIn_loop_ghost (MI (.func yf #[] yb) o lb g cap key xs B J S W w2) ?_ ?_
    · refine ⟨xs.length, L, xs, 0, (fun b => S b ∨ b = g), L.length, _, _, _, _, _, _, _, _, _, _, _, _, _, _, _, _, _, _, _, _, _, _, _, _, _, _, _, _, _, _, _, _, _, _, _, _, _, rfl, rfl, rfl, hmg, rfl, Nat.zero_le _, hrow, hlc, hL, hg, ⟨S, fun _ => Iff.rfl, fun b x hs => by have := hS b hs; omega, hJ 0 S W w2 h0 hS hbel.size (fun b x => hbel.block b (hS b x)), trivial⟩, ?_, .refl _ _, .refl _ _⟩
      rintro b (x | x)
      · have := hS b x; have := hbel.size; omega
      · omega
    · intro m a w hI
      exact merge_loop o lb g cap gf lf key hless hcap xs B yf yb J Jx S W w2 hJ hgW hgl hch2 (fun b x => ⟨HHM.out b (by rcases x with x | x; (· exact .inr (.inl x)); exact .inr (.inr (.inr x))), fun y => HHS.out b y (by rcases x with x | x; (· exact .inr (.inl x)); exact .inr (.inr (.inr x)))⟩) hc2 R hY
        (fun T W' ⟨T0, hT, hn, hj, _⟩ hi hg hc => hSW T0 W' (hback T T0 hT hn hg) (fun b x => hi b ((hT b).2 (.inl x))) (hchW W' hc) hj)
        (fun k T W' k0 k1 ⟨T0, hT, hn, hj, _⟩ hi hg hc => hSX k T0 W' k0 k1 (hback T T0 hT hn hg) (fun b x => hi b ((hT b).2 (.inl x))) (hchW W' hc) hj)
        m a w hI _ ⟨_, rfl⟩
end Go.Proofs.Ytjlnfeableleeaa
