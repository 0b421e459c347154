/- begun. -/
import Derived.Test.YtpdidlnbeahanaaL
import Derived.RangeFuncLeaves
import Derived.ControlIn
import Derived.ControlIn
import Derived.ControlIn
namespace Go.Proofs.Ytpdidlnbeahanaa
open Go Go.RowKit Go.Shelf Go.Proofs
attribute [local go_sem] Oper.semAt_some
attribute [local go_sem] eql51n eql51f wide_fn wide_depth

/-- A range over an iterator that lays its values straight into the frame. -/
theorem wpIn_rangeFunc_skip {α : Type} {n : Nat} {P : Program} {g : Operand} {ps : Array Tmp} {body : Code} {Q : Exit → Act → World → Prop} {a : Act} {w : World}
    {sv : Value} (hg : a.eval g = sv) {encs : α → Array Value} {xs : List α} {M Mm : Nat → Prop} {Qi : Nat → World → Prop} (hgv : Gives P sv encs xs M Mm Qi) (hps : ∀ x, (encs x).size = ps.size)
    (I : Nat → (Nat → Prop) → World → Prop) (Ix : Code → Nat → (Nat → Prop) → World → Prop) (hI : ∀ k, Loc (I k)) (hIx : ∀ c k, Loc (Ix c k))
    (S : Nat → Prop) (hS : InW S w) (hM : InW M w) (hSM : ∀ b, S b → ¬ M b) (hQ : Qi 0 w) (h0 : I 0 S w)
    (hbody : ∀ (l k : Nat) (hk : k < xs.length) S1 W1, InW S1 W1 → Chg (fun b => S b ∨ Mm b) w W1 → I k S1 W1 →
      body.wpIn (Fence.wide.inRound l) 0 P (sepPost I Ix (k + 1) S1 W1) { tmps := (ps.zip (encs xs[k])).foldl (fun t (p, v) => t.setIfInBounds p v) a.tmps, defers := [] } W1)
    (hdone : ∀ S' W', Grows S S' w → InW S' W' → Chg (fun b => S b ∨ Mm b) w W' → I xs.length S' W' → Qi xs.length W' → W'.heap[w.heap.size]? = some (.deferred (some [])) → ¬ S' w.heap.size →
      Q .normal { a with defers := markAt w.heap.size :: a.defers } W')
    (hstop : ∀ c k S' W', 0 < k → k ≤ xs.length → Grows S S' w → InW S' W' → Chg (fun b => S b ∨ Mm b) w W' → Ix c k S' W' → Qi k W' → W'.heap[w.heap.size]? = some (.deferred (some [])) → ¬ S' w.heap.size →
      c.wpIn Fence.wide n P Q { a with defers := markAt w.heap.size :: a.defers } W') :
    (Code.rangeFunc g ps .skip body).wpIn Fence.wide n P Q a w :=
  wpIn_rangeFunc_sep hg hgv hps I Ix hI hIx S hS hM hSM hQ h0 (fun x => { tmps := (ps.zip (encs x)).foldl (fun t (p, v) => t.setIfInBounds p v) a.tmps, defers := [] }) (fun _ _ _ _ hK => wpIn_skip hK) hbody hdone hstop

theorem Mv.slc {W : World} {v : Value} {l : List R2} (h : Mv W v l) : ∃ p n c, v = .slice p n c := by
  obtain ⟨p, c, e, _⟩ := h.slice
  exact ⟨p, _, c, e⟩
/-- Numbers in a block of their own. -/
theorem rd_new (W : World) (xs : List Int) (cs : Array Value) (hcs : cs = (xs.map iv).toArray) : Rd (W.alloc (.cells cs 3)) (some ⟨W.heap.size, 0, none⟩) xs := fun j hj => by
  refine ⟨W.heap.size, 0, rfl, by simp, ?_⟩
  rw [Nat.zero_add, nd_cell (heap_alloc_new W (.cells cs 3)), hcs]
  simp [hj]
/-- Which elements a set has, by its list. -/
theorem els_of {l : List R2} {P : Int → Bool} {xs : List Int} (hl : Nrm l) (hP : Is l P) (hs : xs.Pairwise (· < ·)) (h : ∀ x, P x = true ↔ x ∈ xs) : els l = xs :=
  srt_ext (els_srt hl) hs (fun x => by rw [mem_els, hP x, h x])

/-- begun's Map. -/
abbrev L3 : List R2 := [(1, 3), (5, 6)]
theorem l3_nrm : Nrm L3 := ⟨by simp [L3], fun r hr => by
  simp [L3] at hr
  rcases hr with rfl | rfl <;> decide⟩
def p3 (x : Int) : Bool := decide (x = 1 ∨ x = 2 ∨ x = 5)
theorem l3_is : Is L3 p3 := fun x => by
  unfold L3 p3
  rw [mem_cons, mem_one, decide_eq_true_eq]
  show (1 ≤ x ∧ x < 3) ∨ (5 ≤ x ∧ x < 6) ↔ _
  omega
theorem l3_els : els L3 = [1, 2, 5] := by decide
theorem l3_of {l : List R2} (hl : Nrm l) (h : Is l (ofP [5, 1, 2, -1, 2])) : l = L3 := runs_ext hl l3_nrm (fun x => by
  rw [h x, l3_is x]
  unfold ofP p3 inB
  simp
  omega)
/-- Where begun stands: the Map, its variable, the row of its runs; all below W as it was. -/
structure Bg (W : World) (v : Value) (mb : Nat) (v2 : Value) (x : World) : Prop where
  mv : Mv x v L3
  kb : x.heap[mb]? = some (.cells #[v] 27)
  rr : Rp x 0 v2 L3
  bel : Below W.heap.size W x
theorem Bg.later {W x y : World} {v v2 : Value} {mb : Nat} (h : Bg W v mb v2 x) (hb : Below x.heap.size x y) : Bg W v mb v2 y :=
  ⟨h.mv.later hb, heap_below hb h.kb, HRow.later h.rr hb, below_on h.bel hb⟩
theorem Bg.cell {W x : World} {v v2 : Value} {mb : Nat} (h : Bg W v mb v2 x) : x.cell? ⟨mb, 0, none⟩ = some v ∧ mb < x.heap.size := ⟨nd_cell h.kb 0, lt_of_heap h.kb⟩
theorem has_r {x : World} {v : Value} {l : List R2} (hl : Nrm l) (hv : Mv x v l) {P : Int → Bool} (hP : Is l P) (i : Int) (b : Bool) (h : P i = b) : Calls Try.prog 14 #[.agg #[v], (Value.int .i64 (i))] x fun e w' => e = .returned (.bool b) ∧ Below x.heap.size x w' :=
  has_any hl hv i b (by rw [hP i, h])
theorem count_r {x : World} {v : Value} {l : List R2} (hl : Nrm l) (hv : Mv x v l) {P : Int → Bool} (hP : Is l P) (xs : List Int) (hs : xs.Pairwise (· < ·)) (h : ∀ y, P y = true ↔ y ∈ xs) : Calls Try.prog 28 #[.agg #[v]] x fun e w' => e = .returned (Value.int .i64 ((xs.length : Int))) ∧ Below x.heap.size x w' := by
  have := count_any hl hv
  rw [els_of hl hP hs h] at this
  exact this

/-- Behind the range: the Map, n, the runs' row, the mark. -/
structure Bh (W : World) (v : Value) (mb nb g D : Nat) (x : World) : Prop where
  mv : Mv x v L3
  kb : x.heap[mb]? = some (.cells #[v] 27)
  kn : x.cell? ⟨nb, 0, none⟩ = some (Value.int .i64 (3))
  r0 : x.cell? ⟨g, 0, none⟩ = some (Value.int .i64 (1))
  r1 : x.cell? ⟨g, 1, none⟩ = some (Value.int .i64 (3))
  kd : x.heap[D]? = some (.deferred (some []))
  bel : Below W.heap.size W x
theorem Bh.later {W x y : World} {v : Value} {mb nb g D : Nat} (h : Bh W v mb nb g D x) (hb : Below x.heap.size x y) : Bh W v mb nb g D y :=
  ⟨h.mv.later hb, heap_below hb h.kb, bel_cell hb h.kn, bel_cell hb h.r0, bel_cell hb h.r1, heap_below hb h.kd, below_on h.bel hb⟩
theorem Bh.sees {W x : World} {v : Value} {mb nb g D : Nat} (h : Bh W v mb nb g D x) : x.cell? ⟨mb, 0, none⟩ = some v ∧ x.cell? ⟨nb, 0, none⟩ = some (Value.int .i64 (3)) ∧ x.cell? ⟨g, 0, none⟩ = some (Value.int .i64 (1)) ∧ x.cell? ⟨g, 1, none⟩ = some (Value.int .i64 (3)) := ⟨nd_cell h.kb 0, h.kn, h.r0, h.r1⟩
theorem q_and (y : Int) : (p3 y && spanP 2 9 y) = true ↔ y ∈ [2, 5] := by simp [p3, spanP]; omega
theorem q_not (y : Int) : notP p3 4 y = true ↔ y ∈ [0, 3] := by simp [p3, notP]; omega
theorem q_out (y : Int) : outP p3 (ofP [1]) y = true ↔ y ∈ [2, 5] := by simp [p3, outP, ofP, inB]; omega
theorem q_eq (y : Int) : p3 y = (ofP [5] y || spanP 1 3 y) := by rw [Bool.eq_iff_iff]; simp [p3, ofP, inB, spanP]; omega

set_option maxRecDepth 100000 in
set_option maxHeartbeats 4000000 in
theorem begun_any (W : World) : Calls Try.prog 9 #[] W fun e W' => e = .returned (.bool true) ∧ Below W.heap.size W W' := by
  have h11 := of_any (W := W.alloc (.cells #[(Value.int .i64 (5)), (Value.int .i64 (1)), (Value.int .i64 (2)), (Value.int .i64 (-1)), (Value.int .i64 (2))] 3)) (xs := [5, 1, 2, -1, 2]) (n := 5) (c := 5) rfl (by omega) (rd_new W _ _ rfl)
  have hB0 := below_alloc W (.cells #[(Value.int .i64 (5)), (Value.int .i64 (1)), (Value.int .i64 (2)), (Value.int .i64 (-1)), (Value.int .i64 (2))] 3)
  have h29 := fun v y (h : Mv y v L3) => runs_any l3_nrm h
  have h28 := fun v y (h : Mv y v L3) => count_any l3_nrm h
  rw [l3_els] at h28
  have h30 := fun v y (h : Mv y v L3) => all_any h
  refine (callsIn_wide (n := 0)).1 ?_
  refine callsIn_of_wp_marks Try.func9 rfl trivial ?_ rfl
  simp only [Try.ntmps9, List.size_toArray, List.length_nil, Nat.reduceSub, Array.replicate_succ, Array.replicate_zero, List.push_toArray, List.append_toArray, List.nil_append, List.cons_append]
  gi_wp2_with (first
    | (gi_at_call 11; refine callsIn_of_calls rfl ?_; (with_reducible refine h11.mono ?_); rintro e x1 ⟨v1, l1, rfl, m1, n1, i1, b1⟩; obtain rfl := l3_of n1 i1; obtain ⟨p1, q1, c1, rfl⟩ := m1.slc; have b1 := below_on hB0 b1; have k2 := heap_alloc_new x1 (.cells #[.slice p1 q1 c1] 27); have m2 := m1.later (below_alloc x1 (.cells #[.slice p1 q1 c1] 27)); have b2 := below_on b1 (below_alloc x1 (.cells #[.slice p1 q1 c1] 27)); clear h11 m1 n1 i1 b1 hB0; have h29 := h29 _ _ m2)
    | (gi_at_call 29; refine callsIn_of_calls rfl ?_; (with_reducible refine h29.mono ?_); rintro e x2 ⟨v2, rfl, r2, b3⟩; clear h29; obtain ⟨mb, hmb⟩ : ∃ mb, x1.heap.size = mb := ⟨_, rfl⟩; rw [hmb] at k2; have G2 : Hid (Bg W (.slice p1 q1 c1) mb v2 x2) := Lib.hid ⟨m2.later b3, heap_below b3 k2, r2, below_on b2 b3⟩; clear m2 k2 r2 b3 b2; have g3 := G2.out.later (below_alloc x2 (.cells #[(Value.int .i64 (0))] 3)); have c3 := g3.cell; have k3 := heap_alloc_new x2 (.cells #[(Value.int .i64 (0))] 3); obtain ⟨c3, z3⟩ := c3; have h28 := h28 _ _ g3.mv; have G3 := Lib.hid (And.intro g3 k3); clear g3 k3; rw [hmb])
    | (gi_at_call 28; refine callsIn_of_calls rfl ?_; (with_reducible refine h28.mono ?_); rintro e x4 ⟨rfl, b4⟩; clear h28; have g4 := G3.out.1.later b4; obtain ⟨c4, z4⟩ := g4.cell; have G4 := Lib.hid (And.intro g4 (heap_below b4 G3.out.2)); have h30a := h30 _ _ g4.mv; have g5 := g4.later (below_alloc x4 (.cells #[.slice p1 q1 c1] 27)); have h30b := h30 _ _ g5.mv; clear b4 c3 z3 h30 g4 g5)
    | (gi_at_call 30; refine callsIn_of_calls rfl ?_; (with_reducible refine h30a.mono ?_); rintro e x5 ⟨rfl, hx5⟩; subst x5; clear h30a)
    | (gi_at_call 30; refine callsIn_of_calls rfl ?_; (with_reducible refine h30b.mono ?_); rintro e x6 ⟨rfl, hx6⟩; subst x6; clear h30b))
  obtain ⟨nb, hnb⟩ : ∃ nb, x2.heap.size = nb := ⟨_, rfl⟩
  obtain ⟨x6, hx6⟩ : ∃ x6, (x4.alloc (.cells #[.slice p1 q1 c1] 27)).alloc (.cells #[.slice p1 q1 c1] 27) = x6 := ⟨_, rfl⟩
  have hb46 : Below x4.heap.size x4 x6 := by rw [← hx6]; exact (below_alloc x4 _).alloc (by simp) _
  have hz6 : x6.heap.size = x4.heap.size + 1 + 1 := by rw [← hx6]; simp
  have hcc : Cell x6 (x4.heap.size + 1) (.slice p1 q1 c1) := by
    have := Cell.new (x4.alloc (.cells #[.slice p1 q1 c1] 27)) (.slice p1 q1 c1) 27
    rw [World.size_alloc, hx6] at this
    exact this
  have g6 := G4.out.1.later hb46
  have k6 := heap_below hb46 G4.out.2
  rw [hnb] at k6
  have hnz : nb < x4.heap.size := by have := lt_of_heap G4.out.2; omega
  have n6 : Cell x6 nb (Value.int .i64 (0)) := ⟨nd_cell k6 0, frozen_of_row x6 nb 0 _ _ k6⟩
  have hvb : ∀ b, (Value.slice p1 q1 c1).ownBlock = some b → b < nb := fun b hb => by have := (HRow.lt G2.out.mv b hb).2; omega
  rw [hx6, hnb]
  clear hx6
  refine wpIn_rangeFunc_skip (sv := .func (.func 40) #[] #[(Value.pointer (some ⟨x4.heap.size + 1, 0, none⟩))]) rfl (all_gives (x4.heap.size + 1) l3_nrm x6 g6.mv) (fun _ => rfl)
    (fun k T W => (∀ b, T b ↔ b = nb) ∧ Cell W nb (Value.int .i64 ((k : Int)))) (fun _ _ _ _ => False) ?l1 (fun _ _ _ _ _ h => h.elim) (fun b => b = nb) ?hS ?hM ?hSM ⟨hcc, g6.mv⟩ ⟨fun _ => Iff.rfl, n6⟩ ?body ?done (fun _ _ _ _ _ _ _ _ _ h => h.elim)
  case l1 =>
    rintro k T A B ⟨hT, a1⟩ hin hsz hb
    exact ⟨hT, a1.of (hb _ ((hT _).2 rfl))⟩
  case hS => rintro b rfl; omega
  case hM =>
    rintro b (rfl | h)
    · omega
    · have := hvb b h; omega
  case hSM =>
    rintro b rfl (h | h)
    · omega
    · have := hvb b h; omega
  case body =>
    rintro l k hk T W1 hin hchg ⟨hT, d1, e1⟩
    have hk2 : k < 3 := by have h := hk; rw [l3_els] at h; exact h
    dsimp only [enc1]
    gi_wp2_with fail
    exact ⟨T, .refl _ _, fun b h => by simpa [World.setCell] using hin b h, (Chg.refl T W1).setCell (fun _ => (hT _).2 rfl) _, hT, by have := (Cell.set ⟨d1, e1⟩ (Value.int .i64 ((k : Int) + 1))); simpa using this⟩
  case done =>
    rintro S' W' hg hi hch ⟨hT, d1c, d1f⟩ d4 hK hnD'
    have hcb : ∀ b, b < x6.heap.size → b ≠ nb → W'.heap[b]? = x6.heap[b]? := fun b hb hn => hch.block b hb (fun h => by rcases h with h | h; (· exact hn h); exact h)
    have hmb2 : mb < nb := by have := G2.out.cell.2; omega
    have h2b : ∀ b, v2.ownBlock = some b → b < nb := fun b hb => by have := (HRow.lt G2.out.rr b hb).2; omega
    have hWn : W.heap.size ≤ nb := by have := G2.out.bel.size; omega
    have G7 : Hid (Bg W (.slice p1 q1 c1) mb v2 W') := Lib.hid ⟨HRow.of g6.mv (fun b hb => hcb b (by have := hvb b hb; omega) (by have := hvb b hb; omega)), (hcb mb (by omega) (by omega)).trans g6.kb,
      HRow.of g6.rr (fun b hb => hcb b (by have := h2b b hb; omega) (by have := h2b b hb; omega)), g6.bel.trans (hch.below g6.bel.size (fun b hb h => by rcases h with h | h; (· omega); exact h))⟩
    rw [l3_els] at d1c
    obtain ⟨D9, hD9⟩ : ∃ D9, x6.heap.size = D9 := ⟨_, rfl⟩
    rw [hD9] at hK ⊢
    have d1c : W'.cell? ⟨nb, 0, none⟩ = some (Value.int .i64 (3)) := d1c
    obtain ⟨g2, c2, rfl, _, _⟩ := HRow.slice G7.out.rr (by decide)
    obtain ⟨r0, r1⟩ := cells2_at L3 0 (1, 3) rfl
    have r0 := HRow.cell G7.out.rr r0
    have r1 := HRow.cell G7.out.rr r1
    have G : Hid (Bh W (.slice p1 q1 c1) mb nb g2 D9 W'.drew) := Lib.hid (Bh.later (x := W') ⟨G7.out.mv, G7.out.kb, d1c, r0, r1, hK, G7.out.bel⟩ (Below.refl _ W').drew)
    have hc0 := G7.out.cell.1
    have hDW : W.heap.size ≤ D9 := by have := g6.bel.size; omega
    have e5 : under (els L3) 5 = 2 := by decide
    have s2 : sel (els L3) 2 = 5 := by decide
    have s3 : sel (els L3) 3 = -1 := by decide
    clear hch hg hi hT d4 hnD' hcb hK d1f G2 G3 G4 hmb2 h2b hb46 hz6 hcc g6 k6 n6 hvb
    gi_wp2_with fail
    refine wpIn_wide.2 ?_
    go_region_held3 (fun w => w.cell? ⟨mb, 0, none⟩ = some (.slice p1 q1 c1) ∧ w.cell? ⟨nb, 0, none⟩ = some (Value.int .i64 (3)) ∧ w.cell? ⟨g2, 0, none⟩ = some (Value.int .i64 (1)) ∧ w.cell? ⟨g2, 1, none⟩ = some (Value.int .i64 (3))) (first | exact G.out.sees | exact (G.out.later (below_alloc _ _)).sees | exact ⟨hc0, d1c, r0, r1⟩) (first
      | (go_at_call 14; (with_reducible refine (has_r l3_nrm G.out.mv l3_is 2 true rfl).mono ?_); rintro e y1 ⟨rfl, b⟩; replace G := Lib.hid (G.out.later b))
      | (go_at_call 14; (with_reducible refine (has_r l3_nrm G.out.mv l3_is 3 false rfl).mono ?_); rintro e y2 ⟨rfl, b⟩; replace G := Lib.hid (G.out.later b))
      | (go_at_call 28; (with_reducible refine (count_r l3_nrm G.out.mv l3_is [1, 2, 5] (by decide) (fun y => by simp [p3])).mono ?_); rintro e y3 ⟨rfl, b⟩; replace G := Lib.hid (G.out.later b))
      | (go_at_call 16; (with_reducible refine (rank_any l3_nrm G.out.mv 5 (by omega)).mono ?_); rintro e y4 ⟨rfl, b⟩; replace G := Lib.hid (G.out.later b))
      | (go_at_call 17; (with_reducible refine (select_any l3_nrm G.out.mv 2 (by omega)).mono ?_); rintro e y5 ⟨rfl, b⟩; replace G := Lib.hid (G.out.later b))
      | (go_at_call 17; (with_reducible refine (select_any l3_nrm G.out.mv 3 (by omega)).mono ?_); rintro e y6 ⟨rfl, b⟩; replace G := Lib.hid (G.out.later b))
      | (go_at_call 27; (with_reducible refine (span_any 2 9 _).mono ?_); rintro e y7 ⟨vs, ls, rfl, ms, ns, is, b⟩; obtain ⟨ps, qs, cs, rfl⟩ := ms.slc; replace G := Lib.hid (G.out.later (b)))
      | (go_at_call 22; (with_reducible refine (and_any l3_nrm ns G.out.mv ms l3_is is).mono ?_); rintro e y8 ⟨va, la, rfl, ma, na, ia, b⟩; obtain ⟨pa, qa, ca, rfl⟩ := ma.slc; replace G := Lib.hid (G.out.later (b)))
      | (go_at_call 28; (with_reducible refine (count_r na ma ia [2, 5] (by decide) q_and).mono ?_); rintro e y9 ⟨rfl, b⟩; replace G := Lib.hid (G.out.later b))
      | (go_at_call 26; (with_reducible refine (not_any l3_nrm G.out.mv l3_is 4).mono ?_); rintro e y10 ⟨vn, ln, rfl, mn, nn, inn, b⟩; obtain ⟨pn, qn, cn, rfl⟩ := mn.slc; replace G := Lib.hid (G.out.later (b)))
      | (go_at_call 28; (with_reducible refine (count_r nn mn inn [0, 3] (by decide) q_not).mono ?_); rintro e y11 ⟨rfl, b⟩; replace G := Lib.hid (G.out.later b))
      | (go_at_call 11; (with_reducible refine (of_any (xs := [5]) (n := 1) (c := 1) rfl (by omega) (rd_new _ [5] #[(Value.int .i64 (5))] rfl)).mono ?_); rintro e y12 ⟨vo, lo, rfl, mo, no, io, b⟩; obtain ⟨po, qo, co, rfl⟩ := mo.slc; replace G := Lib.hid (G.out.later (below_on (below_alloc _ _) b)))
      | (go_at_call 27; (with_reducible refine (span_any 1 3 _).mono ?_); rintro e y13 ⟨vt, lt, rfl, mt, nt, it, b⟩; obtain ⟨pt, qt, ct, rfl⟩ := mt.slc; replace mo := mo.later b; replace G := Lib.hid (G.out.later (b)))
      | (go_at_call 23; (with_reducible refine (or_any no nt mo mt io it).mono ?_); rintro e y14 ⟨vr, lr, rfl, mr, nr, ir, b⟩; obtain ⟨pr, qr, cr, rfl⟩ := mr.slc; replace G := Lib.hid (G.out.later (b)))
      | (go_at_call 25; (with_reducible refine (eq_any l3_nrm nr G.out.mv mr l3_is ir true ⟨fun _ => q_eq, fun _ => rfl⟩).mono ?_); rintro e y15 ⟨rfl, b⟩; replace G := Lib.hid (G.out.later b))
      | (go_at_call 11; (with_reducible refine (of_any (xs := [1]) (n := 1) (c := 1) rfl (by omega) (rd_new _ [1] #[(Value.int .i64 (1))] rfl)).mono ?_); rintro e y16 ⟨vu, lu, rfl, mu, nu, iu, b⟩; obtain ⟨pu, qu, cu, rfl⟩ := mu.slc; replace G := Lib.hid (G.out.later (below_on (below_alloc _ _) b)))
      | (go_at_call 24; (with_reducible refine (without_any l3_nrm nu G.out.mv mu l3_is iu).mono ?_); rintro e y17 ⟨vw, lw, rfl, mw, nw, iw, b⟩; obtain ⟨pw, qw, cw, rfl⟩ := mw.slc; replace G := Lib.hid (G.out.later (b)))
      | (go_at_call 28; (with_reducible refine (count_r nw mw iw [2, 5] (by decide) q_out).mono ?_); rintro e y18 ⟨rfl, b⟩; replace G := Lib.hid (G.out.later b)))
    gi_wp2_with fail
    exact post_mark1 (fn := Try.f9) (t := 0) rfl G.out.kd (fun W'' hch hsz => ⟨rfl, G.out.bel.trans (hch.below G.out.bel.size (fun b hb e => by omega))⟩)
end Go.Proofs.Ytpdidlnbeahanaa
