import Derived.Test.YtjlnfeableleeaaM
namespace Go.Proofs.Ytjlnfeableleeaa
open Go Go.RowKit Go.Shelf Go.Proofs
attribute [local go_sem] Oper.semAt_some
attribute [local go_sem] eql26n eql26f eql32f eql34f eql37f eql42n eql42f wide_fn wide_depth

/-- What is said of a list that is left, wherever it stands in the row: its ints lie in W. -/
structure Good (W : World) (B : Nat → Prop) (p : Rest) : Prop where
  b : B p.b
  pos : 0 < p.xs.length
  le : p.xs.length ≤ 1000000
  cap : p.xs.length ≤ p.c
  ints : ∀ i, i < p.xs.length → W.cell? ⟨p.b, p.o + i, none⟩ = some (Value.int .i64 (p.xs[i]?.getD 0))
theorem Good.of {W W' : World} {B : Nat → Prop} {p : Rest} (h : Good W B p) (hb : W'.heap[p.b]? = W.heap[p.b]?) : Good W' B p :=
  ⟨h.b, h.pos, h.le, h.cap, fun i hi => (World.cell?_of_block (w := W) hb).trans (h.ints i hi)⟩
theorem map_erase {α β : Type} (f : α → β) : ∀ (l : List α) (k : Nat), (l.eraseIdx k).map f = (l.map f).eraseIdx k
  | [], _ => rfl
  | _ :: _, 0 => rfl
  | a :: l, k + 1 => by simp only [List.eraseIdx_cons_succ, List.map_cons, map_erase f l k]
theorem left_of {W : World} {g : Nat} {B : Nat → Prop} {L : List Rest} (h : RowAt W g (L.map Rest.t)) (hg : ∀ p, p ∈ L → Good W B p) : LeftIn W g L :=
  ⟨fun j hj => by have := (h j (by simpa using hj)).1; simpa [Rest.enc] using this, fun p hp => ⟨(hg p hp).pos, (hg p hp).le⟩, fun p hp => (hg p hp).ints⟩

/-- The loop of Merge's closure: r are still to come. -/
def MI (yv : Value) (o lb g cap : Nat) (key : Int → Int) (xs : List Int) (B : Nat → Prop) (J : Nat → (Nat → Prop) → World → Prop) (S : Nat → Prop) (W w2 : World) (m : Nat) (a : Act) (w : World) : Prop :=
  ∃ (L : List Rest) (r : List Int) (k : Nat) (T : Nat → Prop) (n : Nat) (u5 u6 u7 u8 u9 u10 u11 u12 u13 u14 u15 u16 u17 u18 u19 u20 u21 u22 u23 u24 u25 u26 u27 u28 u29 u30 u31 u32 u33 u34 u35 u36 u37 u38 u39 u40 u41 : Value),
    a = { tmps := #[yv, (Value.pointer (some ⟨o, 0, none⟩)), (Value.pointer (some ⟨lb, 0, none⟩)), undef, .slice (some ⟨g, 0, none⟩) n cap, u5, u6, u7, u8, u9, u10, u11, u12, u13, u14, u15, u16, u17, u18, u19, u20, u21, u22, u23, u24, u25, u26, u27, u28, u29, u30, u31, u32, u33, u34, u35, u36, u37, u38, u39, u40, u41], defers := [] } ∧
    L.length = n ∧ m = r.length ∧ Mg key (L.map Rest.xs) r ∧ xs.drop k = r ∧ k ≤ xs.length ∧ RowAt w g (L.map Rest.t) ∧ n ≤ cap ∧ n ≤ 1000000 ∧ (∀ p, p ∈ L → Good W B p) ∧
    Plus (fun b => b = g) (J k) (fun _ => True) T w ∧ InW T w ∧ Grows (fun b => S b ∨ b = g) T w2 ∧ Chg (fun b => S b ∨ b = g) w2 w

set_option maxRecDepth 100000 in
set_option maxHeartbeats 2000000 in
/-- The loop of Merge's closure. -/
theorem merge_loop (o lb g cap : Nat) (gf : Nat) (lf : Array Value) (key : Int → Int) (hless : Lss (.func (.func gf) #[] lf) key) (hcap : cap ≤ 9223372036854775807) (xs : List Int) (B : Nat → Prop) (yf : Fn) (yb : Array Value)
    (J Jx : Nat → (Nat → Prop) → World → Prop) (S : Nat → Prop) (W w2 : World) (hJ : ∀ k, Loc (J k)) (hg2 : W.heap.size ≤ g) (hgw : g < w2.heap.size) (hch2 : Chg (fun _ => False) W w2)
    (hro : ∀ b, (b = lb ∨ B b) → b < W.heap.size ∧ ¬ S b) (hlb : Cell W lb (.func (.func gf) #[] lf)) (R : Ending → World → Prop)
    (hY : ∀ k (hk : k < xs.length) S1 W1, InW S1 W1 → Chg (fun b => S b ∨ False) W W1 → J k S1 W1 →
      CallsV Try.prog (.func yf #[] yb) (enc1 xs[k]) W1 fun e W2 => ∃ S2, Grows S1 S2 W1 ∧ InW S2 W2 ∧ Chg S1 W1 W2 ∧
        ((e = .returned (.bool true) ∧ J (k + 1) S2 W2) ∨ (e = .returned (.bool false) ∧ Jx (k + 1) S2 W2)))
    (hdone : ∀ T W', Plus (fun b => b = g) (J xs.length) (fun _ => True) T W' → InW T W' → Grows (fun b => S b ∨ b = g) T w2 → Chg (fun b => S b ∨ b = g) w2 W' → R (.returned (.tuple #[])) W')
    (hstop : ∀ k T W', 0 < k → k ≤ xs.length → Plus (fun b => b = g) (Jx k) (fun _ => True) T W' → InW T W' → Grows (fun b => S b ∨ b = g) T w2 → Chg (fun b => S b ∨ b = g) w2 W' → R (.returned (.tuple #[])) W')
    (m : Nat) (a : Act) (wr : World) (hI : MI (.func yf #[] yb) o lb g cap key xs B J S W w2 m a wr) (c : Code) (hc : ∃ h, Try.f45.body = some (Code.seq h (Code.block 0 (Code.loop c)))) :
    c.wpIn Fence.wide 0 Try.prog (Exit.then (fun a' w' => ∃ m', m' < m ∧ MI (.func yf #[] yb) o lb g cap key xs B J S W w2 m' a' w') (Exit.inBlock 0 (bodyPost Try.prog Try.f45 R))) a wr := by
  obtain ⟨hh, hc⟩ := hc
  injection hc with hc
  injection hc with hc1 hc2
  injection hc2 with hc3 hc4
  injection hc4 with hc5
  subst hc5
  obtain ⟨L, r, k, T, n, u5, u6, u7, u8, u9, u10, u11, u12, u13, u14, u15, u16, u17, u18, u19, u20, u21, u22, u23, u24, u25, u26, u27, u28, u29, u30, u31, u32, u33, u34, u35, u36, u37, u38, u39, u40, u41, rfl, hn, hm, hmg, hdrop, hk, hrow, hlc, hln, hgood, ⟨T0, hT, hnT, hj, _⟩, hin, hgr, hchg⟩ := hI
  have hz2 : W.heap.size < w2.heap.size := by have := hch2.size; omega
  have hcW : Chg (fun b => S b ∨ False) W wr := hch2.trans hchg (fun _ _ x => x.elim) (fun b hb x => by rcases x with x | x; (· exact .inl x); omega)
  have hlbw : Cell wr lb (.func (.func gf) #[] lf) := hlb.of (hcW.block lb (hro lb (.inl rfl)).1 (by rintro (y | y); (· exact (hro lb (.inl rfl)).2 y); exact y))
  have hgoodw : ∀ p, p ∈ L → Good wr B p := fun p hp => (hgood p hp).of (hcW.block _ (hro _ (.inr (hgood p hp).b)).1 (by rintro (y | y); (· exact (hro _ (.inr (hgood p hp).b)).2 y); exact y))
  have hle := left_of hrow hgoodw
  have HN : Hid (L.length = n) := Lib.hid hn
  clear hn
  obtain ⟨l1, l2⟩ := hlbw
  by_cases h0 : 0 < n
  · cases r with
    | nil =>
      exfalso
      have e : L.map Rest.xs = [] := hmg
      have e' : L.length = 0 := by simpa using congrArg List.length e
      have := HN.out
      omega
    | cons x r' =>
    obtain ⟨A, t, B', hAB, hA, hB, hmg'⟩ := hmg
    have h47 := f47_any gf lf key hless g cap n L HN h0 hln wr hle
    have hfa : ∀ low, First key L low → low = A.length := fun low hf => first_at hf hAB hA hB
    obtain ⟨low, hlow⟩ : ∃ low, A.length = low := ⟨_, rfl⟩
    rw [hlow] at hfa
    have hlen : L.length = A.length + (B'.length + 1) := by have := congrArg List.length hAB; simpa using this
    have hlt : low < L.length := by omega
    obtain ⟨p, hp⟩ : ∃ p, L[low] = p := ⟨_, rfl⟩
    have hpx : p.xs = x :: t := by
      have : (L.map Rest.xs)[low]'(by simpa using hlt) = (A ++ (x :: t) :: B')[low]'(by simp; omega) := by simp only [hAB]
      rw [← hp]
      simp only [List.getElem_map] at this
      rw [this]; subst hlow; simp
    have hpg := hgoodw p (hp ▸ List.getElem_mem hlt)
    have hpg0 := hgood p (hp ▸ List.getElem_mem hlt)
    have hrl := hrow low (by simpa using hlt)
    simp only [List.getElem_map, hp, Rest.enc] at hrl
    have hph := hpg.ints 0 hpg.pos
    obtain ⟨pb, po, pc, px⟩ := p
    dsimp only at hpx
    subst hpx
    have hcapp : t.length + 1 ≤ pc := hpg.cap
    have hlen0 : t.length + 1 ≤ 1000000 := hpg.le
    unfold Rest.v at hrl
    dsimp only [List.length_cons] at hrl
    rw [show ((x :: t)[0]?.getD 0) = x by rfl] at hph
    dsimp only [Nat.add_zero] at hph
    have hkx : k < xs.length := by
      have := congrArg List.length hdrop
      simp at this; omega
    have hxk : xs[k] = x := by
      have h1 := List.drop_eq_getElem_cons hkx
      rw [hdrop] at h1
      exact (List.cons.inj h1).1.symm
    have hdrop' : xs.drop (k + 1) = r' := by
      have h1 := List.drop_eq_getElem_cons hkx
      rw [hdrop] at h1
      exact (List.cons.inj h1).2.symm
    have hgw2 : g < wr.heap.size := hin g ((hT g).2 (.inr rfl))
    have hyf : ∀ q, CallsV Try.prog (.func yf #[] yb) #[(Value.int .i64 (x))] (wr.drewN q) fun e W2 => ∃ S2, Grows T0 S2 wr ∧ InW S2 W2 ∧ Chg T0 wr W2 ∧ ((e = .returned (.bool true) ∧ J (k + 1) S2 W2) ∨ (e = .returned (.bool false) ∧ Jx (k + 1) S2 W2)) := fun q => by
      have := hY k hkx T0 (wr.drewN q) (fun b y => hin b ((hT b).2 (.inl y))) ⟨hcW.os, hcW.tape, hcW.output, hcW.size, hcW.block⟩ (hJ k T0 wr _ hj (fun b y => hin b ((hT b).2 (.inl y))) (Nat.le_refl _) (fun _ _ => rfl))
      rw [hxk] at this
      refine this.mono ?_
      rintro e W2 ⟨S2, a1, a2, a3, a4⟩
      exact ⟨S2, a1, a2, ⟨a3.os, a3.tape, a3.output, a3.size, a3.block⟩, a4⟩
    have hpost : ∀ S2 W3, Grows T0 S2 wr → InW S2 W3 → Chg T0 wr W3 →
        Grows T (fun b => S2 b ∨ b = g) wr ∧ InW (fun b => S2 b ∨ b = g) W3 ∧ Chg T wr W3 ∧ (∀ b, b = g → ¬ S2 b) ∧ RowAt W3 g (L.map Rest.t) ∧ W3.cell? ⟨g, low, none⟩ = some (.slice (some ⟨pb, po, none⟩) (t.length + 1) pc) ∧ W3.frozen? ⟨g, low, none⟩ = false := fun S2 W3 p1 p2 p3 => by
      obtain ⟨s1, s2, s3, s4, s5⟩ := Plus.step hT hnT hin p1 p2 p3
      have hb := s5 g rfl
      exact ⟨s1, s2, s3, s4, hrow.of hb, (World.cell?_of_block (w := wr) hb).trans hrl.1, (World.frozen?_of_block (w := wr) hb).trans hrl.2⟩
    have hgrow : ∀ T', Grows T T' wr → Grows (fun b => S b ∨ b = g) T' w2 := fun T' h => hgr.trans h hchg.size
    have hchg' : ∀ W', Chg T wr W' → Chg (fun b => S b ∨ b = g) w2 W' := fun W' h => hchg.trans h (fun _ _ y => y) (fun b hb y => (hgr b y).resolve_right (by omega))
    have hnextD : ∀ S2 W3 W5, J (k + 1) S2 W3 → InW S2 W3 → Grows T0 S2 wr → Chg T0 wr W3 → Chg (fun b => b = g) W3 W5 → W5.heap.size = W3.heap.size → RowAt W5 g ((L.eraseIdx low).map Rest.t) → t = [] →
        Mg key ((L.eraseIdx low).map Rest.xs) r' ∧ (L.eraseIdx low).length = n - 1 ∧ (∀ p, p ∈ L.eraseIdx low → Good W B p) ∧ Plus (fun b => b = g) (J (k + 1)) (fun _ => True) (fun b => S2 b ∨ b = g) W5 ∧ InW (fun b => S2 b ∨ b = g) W5 ∧ Grows (fun b => S b ∨ b = g) (fun b => S2 b ∨ b = g) w2 ∧ Chg (fun b => S b ∨ b = g) w2 W5 := fun S2 W3 W5 j1 i1 p1 p3 d1 d2 d3 ht => by
      obtain ⟨s1, s2, s3, s4, s5⟩ := Plus.step hT hnT hin p1 i1 p3
      refine ⟨?_, by rw [List.length_eraseIdx, if_pos hlt]; have := HN.out; omega, fun p hp => hgood p (List.mem_of_mem_eraseIdx hp), ⟨S2, fun _ => Iff.rfl, s4, hJ _ S2 W3 W5 j1 i1 (by omega) (fun b x => d1.block b (i1 b x) (fun e => s4 b e x)), trivial⟩, fun b x => by rw [d2]; exact s2 b x, hgr.trans s1 hchg.size, ?_⟩
      · have e1 : (L.eraseIdx low).map Rest.xs = (L.map Rest.xs).eraseIdx low := map_erase _ _ _
        rw [e1, hAB, ← hlow]
        rw [ht] at hmg' ⊢
        rw [if_pos rfl] at hmg'
        rw [List.eraseIdx_append_of_length_le (Nat.le_refl _)]
        simpa using hmg'
      · have := hchg.trans s3 (T := fun b => S b ∨ b = g) (fun _ _ y => y) (fun b hb y => (hgr b y).resolve_right (by omega))
        exact this.trans d1 (fun _ _ y => y) (fun _ _ y => .inr y)
    have hnextS : ∀ S2 W3 W5, J (k + 1) S2 W3 → InW S2 W3 → Grows T0 S2 wr → Chg T0 wr W3 → W5 = W3.setCell ⟨g, low, none⟩ (.slice (some ⟨pb, po + 1, none⟩) (t.length + 1 - 1) (pc - 1)) → t ≠ [] →
        Mg key ((L.set low ⟨pb, po + 1, pc - 1, t⟩).map Rest.xs) r' ∧ (L.set low ⟨pb, po + 1, pc - 1, t⟩).length = n ∧ RowAt W5 g ((L.set low ⟨pb, po + 1, pc - 1, t⟩).map Rest.t) ∧ (∀ p, p ∈ L.set low ⟨pb, po + 1, pc - 1, t⟩ → Good W B p) ∧ Plus (fun b => b = g) (J (k + 1)) (fun _ => True) (fun b => S2 b ∨ b = g) W5 ∧ InW (fun b => S2 b ∨ b = g) W5 ∧ Grows (fun b => S b ∨ b = g) (fun b => S2 b ∨ b = g) w2 ∧ Chg (fun b => S b ∨ b = g) w2 W5 := fun S2 W3 W5 j1 i1 p1 p3 hW5 ht => by
      obtain ⟨s1, s2, s3, s4, s5⟩ := Plus.step hT hnT hin p1 i1 p3
      have hrow3 := hrow.of (s5 g rfl)
      have d1 : Chg (fun b => b = g) W3 W5 := by rw [hW5]; exact (Chg.refl (fun b => b = g) W3).setCell (p := ⟨g, low, none⟩) (fun _ => rfl) _
      have d2 : W5.heap.size = W3.heap.size := by rw [hW5]; simp [World.setCell]
      refine ⟨?_, by rw [List.length_set]; exact HN.out, ?_, fun p hp => ?_, ⟨S2, fun _ => Iff.rfl, s4, hJ _ S2 W3 W5 j1 i1 (by omega) (fun b x => d1.block b (i1 b x) (fun e => s4 b e x)), trivial⟩, fun b x => by rw [d2]; exact s2 b x, hgr.trans s1 hchg.size, ?_⟩
      · rw [List.map_set, hAB, ← hlow]
        rw [if_neg ht] at hmg'
        rw [List.set_append_right _ _ (Nat.le_refl _)]
        simpa using hmg'
      · rw [List.map_set, hW5]
        exact hrow3.set low (by simpa using hlt) (some ⟨pb, po + 1, none⟩, t.length, pc - 1)
      · rcases List.mem_or_eq_of_mem_set hp with h | rfl
        · exact hgood p h
        · refine ⟨hpg0.b, by have := List.length_pos_iff.2 ht; exact this, ?_, ?_, fun i hi => ?_⟩
          · show t.length ≤ 1000000
            omega
          · show t.length ≤ pc - 1
            omega
          · have := hpg0.ints (i + 1) (by show i + 1 < (x :: t).length; simp; exact hi)
            show W.cell? ⟨pb, po + 1 + i, none⟩ = some (Value.int .i64 (t[i]?.getD 0))
            rw [show po + 1 + i = po + (i + 1) by omega]
            simpa using this
      · have := hchg.trans s3 (T := fun b => S b ∨ b = g) (fun _ _ y => y) (fun b hb y => (hgr b y).resolve_right (by omega))
        exact this.trans d1 (fun _ _ y => y) (fun _ _ y => .inr y)
    have hdel : ∀ (t0 : T3) W4, RowAt W4 g ((L.map Rest.t).set low t0) → Calls Try.prog 48 #[.slice (some ⟨g, 0, none⟩) n cap, (Value.int .i64 ((low : Int))), (Value.int .i64 ((low : Int) + 1))] W4 fun e W' =>
        e = .returned (.slice (some ⟨g, 0, none⟩) (n - 1) cap) ∧ RowAt W' g ((L.eraseIdx low).map Rest.t) ∧ Chg (fun b => b = g) W4 W' ∧ W'.heap.size = W4.heap.size := fun t0 W4 hr => by
      have hl : ((L.map Rest.t).set low t0).length = n := by simp; exact HN.out
      have := delete_any g cap low ((L.map Rest.t).set low t0) (by rw [hl]; have := HN.out; omega) (by rw [hl]; exact hlc) hcap W4 hr
      rw [hl, List.eraseIdx_set_eq, ← map_erase] at this
      exact this
    have HND := Lib.hid hnextD
    have HNS := Lib.hid hnextS
    have HDEL := Lib.hid hdel
    clear hnextD hnextS hdel
    obtain ⟨c1, f1⟩ := hrl
    have hlown : low < n := by rw [← HN.out]; exact hlt
    obtain ⟨ln, hlnn⟩ : ∃ ln, t.length + 1 = ln := ⟨_, rfl⟩
    rw [hlnn] at c1 hcapp hlen0
    have hln1 : 1 ≤ ln := by omega
    have HLN : Hid (t.length + 1 = ln) := Lib.hid hlnn
    have HP := Lib.hid hpost
    have HF := Lib.hid hfa
    have HD := Lib.hid hdrop'
    have HM := Lib.hid hmg'
    have HAB := Lib.hid hAB
    have HLOW := Lib.hid hlow
    have HROW := Lib.hid hrow
    have HIN := Lib.hid hin
    have HT := Lib.hid hT
    have HG := Lib.hid hgood
    have HPP := Lib.hid hp
    have HPG := Lib.hid hpg0
    have HGR := Lib.hid hgrow
    have HCH := Lib.hid hchg'
    have HY := Lib.hid hyf
    clear hY hle hpost hfa hdrop hdrop' hmg' hAB hlow hrow hin hT hgood hgoodw hp hgrow hchg' hyf hlnn hxk hA hB hlen hro hpg hpg0 hcW hchg hgr hnT hj hdone
    have hltt : low < L.length := hlt
    dsimp only
    gi_wp2_with (first
      | (gi_at_call 48; refine (callsIn_wide.2 (HDEL.out _ _ (q5.set lw (by simpa using hltt) (some ⟨pb, po, none⟩, ln - 1, 0)))).mono ?_; rintro e W5 ⟨rfl, d1, d2, d3⟩)
      | (gi_at_call 48; refine (callsIn_wide.2 (HDEL.out _ _ (q5.set lw (by simpa using hltt) (some ⟨pb, po + 1, none⟩, ln - 1, pc - 1)))).mono ?_; rintro e W5 ⟨rfl, d1, d2, d3⟩)
      | (gi_at_call 47; refine (callsIn_wide.2 h47).mono ?_; clear h47; rintro e w1 ⟨lw, hf, rfl, q, rfl⟩; obtain rfl : lw = low := HF.out lw hf; clear hf)
      | ((with_reducible refine wpListIn_callV ?_ ?_ (.func yf #[] yb) [(Value.int .i64 (x))] ?_ ?_ ?_); rfl; rfl; rfl; rfl; refine (HY.out _).mono ?_; rintro e W3 ⟨S2, p1, p2, p3, p4⟩; obtain ⟨q1, q2, q3, q4, q5, cc1, ff1⟩ := HP.out S2 W3 p1 p2 p3; rw [HLN.out] at cc1; (rcases p4 with ⟨rfl, p4⟩ | ⟨rfl, p4⟩) <;> refine ⟨_, rfl, ?_⟩))
    · rename_i hz
      have hz' : ln - 1 = 0 := by simpa using hz
      have ht : t = [] := List.length_eq_zero_iff.1 (by have := HLN.out; omega)
      have d1' : Chg (fun b => b = g) W3 W5 := ((Chg.refl (fun b => b = g) W3).setCell (p := ⟨g, lw, none⟩) (fun _ => rfl) (.slice (some ⟨pb, po, none⟩) (ln - 1) (0))).trans d2 (fun _ _ y => y) (fun _ _ y => y)
      obtain ⟨e1, e2, e3, e4, e5, e6, e7⟩ := HND.out S2 W3 W5 p4 p2 p1 p3 d1' (by rw [d3]; simp [World.setCell]) d1 ht
      exact ⟨r'.length, (by first | exact Nat.lt_succ_self _ | (rw [hm]; simp)), L.eraseIdx lw, r', k + 1, _, n - 1, _, _, _, _, _, _, _, _, _, _, _, _, _, _, _, _, _, _, _, _, _, _, _, _, _, _, _, _, _, _, _, _, _, _, _, _, _, rfl, e2, rfl, e1, HD.out, by omega, d1, by omega, by omega, e3, e4, e5, e6, e7⟩
    · rename_i hz
      have hz' : ln - 1 = 0 := by simpa using hz
      have ht : t = [] := List.length_eq_zero_iff.1 (by have := HLN.out; omega)
      have d1' : Chg (fun b => b = g) W3 W5 := ((Chg.refl (fun b => b = g) W3).setCell (p := ⟨g, lw, none⟩) (fun _ => rfl) (.slice (some ⟨pb, po + 1, none⟩) (ln - 1) (pc - 1))).trans d2 (fun _ _ y => y) (fun _ _ y => y)
      obtain ⟨e1, e2, e3, e4, e5, e6, e7⟩ := HND.out S2 W3 W5 p4 p2 p1 p3 d1' (by rw [d3]; simp [World.setCell]) d1 ht
      exact ⟨r'.length, (by first | exact Nat.lt_succ_self _ | (rw [hm]; simp)), L.eraseIdx lw, r', k + 1, _, n - 1, _, _, _, _, _, _, _, _, _, _, _, _, _, _, _, _, _, _, _, _, _, _, _, _, _, _, _, _, _, _, _, _, _, _, _, _, _, rfl, e2, rfl, e1, HD.out, by omega, d1, by omega, by omega, e3, e4, e5, e6, e7⟩
    · exfalso
      rename_i hz
      have hz' : ln - 1 ≠ 0 := by simpa using hz
      omega
    · rename_i hz
      have hz' : ln - 1 ≠ 0 := by simpa using hz
      have ht : t ≠ [] := fun e => by have := HLN.out; rw [e] at this; simp at this; omega
      obtain ⟨e1, e2, e3, e4, e5, e6, e7, e8⟩ := HNS.out S2 W3 (W3.setCell ⟨g, lw, none⟩ (.slice (some ⟨pb, po + 1, none⟩) (ln - 1) (pc - 1))) p4 p2 p1 p3 (by rw [HLN.out]) ht
      exact ⟨r'.length, (by first | exact Nat.lt_succ_self _ | (rw [hm]; simp)), L.set lw ⟨pb, po + 1, pc - 1, t⟩, r', k + 1, _, n, _, _, _, _, _, _, _, _, _, _, _, _, _, _, _, _, _, _, _, _, _, _, _, _, _, _, _, _, _, _, _, _, _, _, _, _, _, rfl, e2, rfl, e1, HD.out, by omega, e3, hlc, hln, e4, e5, e6, e7, e8⟩
    · exact bodyPost_ret (results_none rfl _ _ _) rfl (hstop (k + 1) _ W3 (by omega) (by omega) ⟨S2, fun _ => Iff.rfl, q4, p4, trivial⟩ q2 (HGR.out _ q1) (HCH.out _ q3))
  · have hl0 : L = [] := List.length_eq_zero_iff.1 (by have := HN.out; omega)
    obtain rfl : n = 0 := by omega
    subst hl0
    have hr0 : r = [] := by
      cases r with
      | nil => rfl
      | cons x r' =>
        obtain ⟨A, t, B', hAB, _⟩ := hmg
        simp at hAB
    have hkx : k = xs.length := by
      have := congrArg List.length hdrop
      rw [hr0] at this
      simp at this; omega
    have hfin := hdone T wr ⟨T0, hT, hnT, hkx ▸ hj, trivial⟩ hin hgr hchg
    clear hY hstop hdone hle hdrop
    gi_wp2_with fail
    go_end0
    exact hfin
end Go.Proofs.Ytjlnfeableleeaa
