/- SchemaDeps: its walk, as far as the table is made. -/
import Derived.Test.YtbhcmmkobadmnaaLA
import Derived.Test.YtbhcmmkobadmnaaPar3
namespace Go.Proofs.Ytbhcmmkobadmnaa
open Go Go.RowKit Go.Proofs

abbrev cY : ByteArray := ⟨#[121]⟩
abbrev cZ : ByteArray := ⟨#[122]⟩
abbrev cW : ByteArray := ⟨#[119]⟩
abbrev bNone : ByteArray := ⟨#[110, 111, 110, 101]⟩
abbrev bT : ByteArray := ⟨#[116]⟩
def nm5 (k : Nat) : ByteArray := [bX, cY, cZ, cW, bNone].getD k e0
def cols4 : List C := [⟨bX, 1, false, e0⟩, ⟨cY, 1, false, e0⟩, ⟨cZ, 1, false, e0⟩, ⟨cW, 1, false, e0⟩]
def tD (a b c d : ByteArray) : T := ⟨bT, cols4, e0, [⟨[a, b, c], d⟩]⟩
theorem tmod_up (z : Int) : ∃ (x : Int) (k : Nat), Int.tmod z 5 = x ∧ Int.tmod (x + 5) 5 = (k : Int) ∧ k < 5 ∧ 0 ≤ x + 5 ∧ x + 5 < 10 := by
  have h1 := Int.tmod_lt_of_pos z (show (0 : Int) < 5 by decide)
  have h2 : -5 < Int.tmod z 5 := by
    rcases Int.le_total 0 z with hz | hz
    · have := Int.tmod_nonneg 5 hz
      omega
    · obtain ⟨m, rfl⟩ : ∃ m, z = -m := ⟨-z, by omega⟩
      have := Int.tmod_lt_of_pos m (show (0 : Int) < 5 by decide)
      rw [Int.neg_tmod]
      omega
  have h3 := Int.tmod_nonneg 5 (show 0 ≤ Int.tmod z 5 + 5 by omega)
  have h4 := Int.tmod_lt_of_pos (Int.tmod z 5 + 5) (show (0 : Int) < 5 by decide)
  exact ⟨_, (Int.tmod (Int.tmod z 5 + 5) 5).toNat, rfl, by omega, by omega, by omega, by omega⟩
theorem cell5 {w : World} {b : Nat} (h : w.heap[b]? = some (.cells #[.string bX, .string cY, .string cZ, .string cW, .string bNone] 9)) (k : Nat) (hk : k < 5) : w.cell? ⟨b, k, none⟩ = some (.string (nm5 k)) := by
  rw [nd_cell h]
  obtain rfl | rfl | rfl | rfl | rfl : k = 0 ∨ k = 1 ∨ k = 2 ∨ k = 3 ∨ k = 4 := by omega
  all_goals rfl

theorem slice55 (b : Nat) (w : World) : (Instr.sliceAt 55 (Value.pointer (some ⟨b, 0, none⟩)) none (some (.int .i64 3)) none).run Try.prog w = .ok (.slice (some ⟨b, 0, none⟩) 3 4) w := by
  have hl : Try.prog.arrayLen 55 = 4 := by kernel_rfl
  have he : Try.prog.elem 55 = 9 := by kernel_rfl
  rw [run_sliceAt_array_h w 55 ⟨b, 0, none⟩ (by kernel_rfl) .i64 3 (by decide) (by rw [hl]; decide), hl, he]
  go_simp
abbrev objC4 : Obj := .cells #[.string bX, .int .i64 1, .bool false, .string e0, .string cY, .int .i64 1, .bool false, .string e0, .string cZ, .int .i64 1, .bool false, .string e0, .string cW, .int .i64 1, .bool false, .string e0] 43
/-- The words that were picked, the table that is made of them. -/
structure Dk (W : World) (PB TB g1 g2 : Nat) (pa pb pc pd : ByteArray) (w : World) : Prop where
  pick : w.heap[PB]? = some (.cells #[.string pa, .string pb, .string pc, .string pd] 55)
  box : w.heap[TB]? = some (boxT bT (.slice (some ⟨g1, 0, none⟩) 4 4) e0 (.slice (some ⟨g2, 0, none⟩) 1 1))
  cols : w.heap[g1]? = some objC4
  deps : w.heap[g2]? = some (.cells #[.slice (some ⟨PB, 0, none⟩) 3 4, .string pd] 53)
  below : Below W.heap.size W w
theorem Dk.on {W : World} {PB TB g1 g2 : Nat} {pa pb pc pd : ByteArray} {w w' : World} (h : Dk W PB TB g1 g2 pa pb pc pd w) (hb : Below w.heap.size w w') : Dk W PB TB g1 g2 pa pb pc pd w' :=
  ⟨heap_on hb h.pick, heap_on hb h.box, heap_on hb h.cols, heap_on hb h.deps, below_on h.below hb⟩
theorem dk_start {W w : World} {PB TB g1 g2 : Nat} {pa pb pc pd : ByteArray} (k1 : w.heap[g1]? = some objC4) (k2 : w.heap[g2]? = some (.cells #[.slice (some ⟨PB, 0, none⟩) 3 4, .string pd] 53)) (hp : w.heap[PB]? = some (.cells #[.string pa, .string pb, .string pc, .string pd] 55))
    (ht : w.heap[TB]? = some (boxT e0 (.slice none 0 0) e0 (.slice none 0 0))) (hb : Below W.heap.size W w) (hW : W.heap.size ≤ TB) :
    Dk W PB TB g1 g2 pa pb pc pd ((((w.setCell ⟨TB, 0, none⟩ (.string bT)).setCell ⟨TB, 1, none⟩ (.slice (some ⟨g1, 0, none⟩) 4 4)).setCell ⟨TB, 2, none⟩ (.string e0)).setCell ⟨TB, 3, none⟩ (.slice (some ⟨g2, 0, none⟩) 1 1)) := by
  have hne : ∀ {q : Nat} {cur : Array Value} {e : TypeId}, w.heap[q]? = some (.cells cur e) → e ≠ 34 → q ≠ TB := fun {q cur e} h he hq => by
    rw [hq, ht] at h
    cases h
    exact he rfl
  have ho := set4_other w TB
  exact ⟨(ho _ (hne hp (by decide)) _ _ _ _).trans hp, set4 ht _ _ _ _, (ho _ (hne k1 (by decide)) _ _ _ _).trans k1, (ho _ (hne k2 (by decide)) _ _ _ _).trans k2, below_set4 hb hW _ _ _ _⟩
def pkL (a b c d : ByteArray) (i : Nat) : ByteArray := [a, b, c, d].getD i e0
def gI (pk : Nat → ByteArray) (i k : Nat) : Bool := !eqS (pk i) (pk k)
def fI (pk : Nat → ByteArray) (i : Nat) : Bool := !eqS (pk i) bNone && (List.range i).all (gI pk i)
def valP (pk : Nat → ByteArray) (j : Nat) : Bool := (List.range j).all (fI pk)
/-- What the inner loop has found of the words ahead of k. -/
def innP (pk : Nat → ByteArray) (i k : Nat) : Bool := valP pk i && (!eqS (pk i) bNone && (List.range k).all (gI pk i))
theorem innP_no {pk : Nat → ByteArray} {i : Nat} (h : valP pk i = false) (k : Nat) : valP pk i = innP pk i k := by unfold innP; rw [h]; rfl
theorem innP_all (pk : Nat → ByteArray) (i : Nat) : innP pk i i = valP pk (i + 1) := by
  unfold innP valP
  rw [List.range_succ, List.all_append, List.all_cons, List.all_nil, Bool.and_true]
  rfl
theorem innP_succ (pk : Nat → ByteArray) (i k : Nat) : innP pk i (k + 1) = (innP pk i k && gI pk i k) := by
  unfold innP
  rw [List.range_succ, List.all_append, List.all_cons, List.all_nil, Bool.and_true]
  cases valP pk i <;> cases eqS (pk i) bNone <;> simp
theorem cellP {W : World} {PB TB g1 g2 : Nat} {pa pb pc pd : ByteArray} {w : World} (h : Dk W PB TB g1 g2 pa pb pc pd w) (i : Nat) (hi : i < 4) : w.cell? ⟨PB, i, none⟩ = some (.string (pkL pa pb pc pd i)) := by
  rw [nd_cell h.pick]
  obtain rfl | rfl | rfl | rfl : i = 0 ∨ i = 1 ∨ i = 2 ∨ i = 3 := by omega
  all_goals rfl
/-- The table is made: its lists lie in blocks of their own. -/
def madeT (PB : Nat) (pd : ByteArray) : Par.VW := ⟨fun v w => ∃ g1 g2, v = .agg #[.string bT, .slice (some ⟨g1, 0, none⟩) 4 4, .string e0, .slice (some ⟨g2, 0, none⟩) 1 1] ∧ w.heap[g1]? = some objC4 ∧ w.heap[g2]? = some (.cells #[.slice (some ⟨PB, 0, none⟩) 3 4, .string pd] 53), fun v w w' h hb => by
  obtain ⟨g1, g2, h0, h1, h2⟩ := h
  exact ⟨g1, g2, h0, heap_on hb h1, heap_on hb h2⟩⟩

theorem deps_all : ∀ a, a < 5 → ∀ b, b < 5 → ∀ c, c < 5 → ∀ d, d < 5 → mayP [] (tD (nm5 a) (nm5 b) (nm5 c) (nm5 d)) = if valP (pkL (nm5 a) (nm5 b) (nm5 c) (nm5 d)) 4 = true then 0 else 3 := by decide +kernel
theorem Dk.chg {W w w' : World} {PB TB g1 g2 S : Nat} {pa pb pc pd : ByteArray} {ts : List T} (h : Dk W PB TB g1 g2 pa pb pc pd w) (hs : Sch w S ts) (hW : W.heap.size ≤ S) (hc : Chg (fun b => b = S) w w') : Dk W PB TB g1 g2 pa pb pc pd w' := by
  obtain ⟨_, xs, rest, h59, _⟩ := hs
  have hne : ∀ {q : Nat} {cur : Array Value} {e : TypeId}, w.heap[q]? = some (.cells cur e) → e ≠ 59 → w'.heap[q]? = some (.cells cur e) := fun {q cur e} hq he => (hc.block q (lt_of_heap hq) (fun eq => by
    have eq : q = S := eq
    rw [eq, h59] at hq
    cases hq
    exact he rfl)).trans hq
  exact ⟨hne h.pick (by decide), hne h.box (by decide), hne h.cols (by decide), hne h.deps (by decide), h.below.trans (hc.under h.below.size hW)⟩
theorem Dk.rd {W w : World} {PB TB g1 g2 : Nat} {pa pb pc pd : ByteArray} (h : Dk W PB TB g1 g2 pa pb pc pd w) : RdT w (.slice (some ⟨g1, 0, none⟩) 4 4) (.slice (some ⟨g2, 0, none⟩) 1 1) (tD pa pb pc pd) := by
  refine ⟨RdC.lit (l := cols4) h.cols (show 4 ≤ maxLen by decide), [.slice (some ⟨PB, 0, none⟩) 3 4], rfl, ?_, ?_⟩
  · exact ⟨rfl, _, _, rfl, Nat.le_refl _, (show 1 ≤ maxLen by decide), fun a e => (by cases e; rfl), fun _ => ⟨g2, 0, _, _, _, rfl, h.deps, by decide, by decide, fun j u hj => by
      rw [Nat.zero_add]
      have hj : ([Value.slice (some ⟨PB, 0, none⟩) 3 4, Value.string pd] : List Value)[j]? = some u := hj
      rcases j with _ | _ | j
      · exact hj
      · exact hj
      · simp at hj⟩⟩
  · intro j h1 h2
    have : j = 0 := by simp at h1; omega
    subst this
    exact ⟨rfl, _, _, rfl, (show 3 ≤ 4 by decide), (show 4 ≤ maxLen by decide), fun a e => (by cases e; rfl), fun _ => ⟨PB, 0, _, _, _, rfl, h.pick, by decide, by decide, fun j u hj => by
      rw [Nat.zero_add]
      have hj : ([Value.string pa, Value.string pb, Value.string pc] : List Value)[j]? = some u := hj
      rcases j with _ | _ | _ | j
      · exact hj
      · exact hj
      · exact hj
      · simp at hj⟩⟩
theorem sm_D (pa pb pc pd : ByteArray) : Sm (tD pa pb pc pd) := small_of (t := tD pa pb pc pd) (show bT.size ≤ 20 by decide) (show cols4.all (fun c => decide (c.nm.size ≤ 20)) = true by decide)
/-- What holds in the law's last region. -/
structure Jd (W : World) (PB TB g1 g2 : Nat) (pa pb pc pd : ByteArray) (E : Nat → Value) (two : Bool) (l : Nat → Bool) (vs : Nat → Value) (w : World) : Prop where
  dk : Dk W PB TB g1 g2 pa pb pc pd w
  ev : ∀ j, j ≠ 0 → (two = true → j ≠ 9) → l j = true → vs j = E j
  p0 : l 0 = true → ∃ S, vs 0 = (Value.pointer (some ⟨S, 0, none⟩)) ∧ W.heap.size ≤ S ∧ (l 2 = false → Sch w S [])
  p9 : two = true → l 9 = true → l 2 = true ∧ ∃ S, vs 9 = (Value.pointer (some ⟨S, 0, none⟩)) ∧ W.heap.size ≤ S ∧ (l 11 = false → Sch w S [])
section
open Par
variable {W w w' : World} {PB TB g1 g2 : Nat} {pa pb pc pd : ByteArray} {E : Nat → Value} {two : Bool} {l : Nat → Bool} {vs : Nat → Value}
theorem upB_ne {l : Nat → Bool} {i j : Nat} (h : j ≠ i) : upB l i j = l j := by simp [upB, h]
theorem upV_ne {vs : Nat → Value} {i j : Nat} {v : Value} (h : j ≠ i) : upV vs i v j = vs j := by simp [upV, h]
theorem upB_eq {l : Nat → Bool} {i : Nat} : upB l i i = true := by simp [upB]
theorem upV_eq {vs : Nat → Value} {i : Nat} {v : Value} : upV vs i v i = v := by simp [upV]
theorem Jd.evs (h : Jd W PB TB g1 g2 pa pb pc pd E two l vs w) (i : Nat) {v : Value} (hv : i ≠ 0 → (two = true → i ≠ 9) → v = E i) : ∀ j, j ≠ 0 → (two = true → j ≠ 9) → upB l i j = true → upV vs i v j = E j := fun j h0 h9 hl => by
  by_cases e : j = i
  · subst e; rw [upV_eq]; exact hv h0 h9
  · rw [upV_ne e]; rw [upB_ne e] at hl; exact h.ev j h0 h9 hl
theorem Jd.pure (h : Jd W PB TB g1 g2 pa pb pc pd E two l vs w) (i : Nat) (h0 : i ≠ 0) (h2 : i ≠ 2) (h9 : two = true → i ≠ 9 ∧ i ≠ 11) : Jd W PB TB g1 g2 pa pb pc pd E two (upB l i) (upV vs i (E i)) w := by
  refine ⟨h.dk, h.evs i (fun _ _ => rfl), fun hl => ?_, fun ht hl => ?_⟩
  · rw [upB_ne (Ne.symm h0)] at hl
    obtain ⟨S, a, b, c⟩ := h.p0 hl
    exact ⟨S, by rw [upV_ne (Ne.symm h0)]; exact a, b, fun x => c (by rw [upB_ne (Ne.symm h2)] at x; exact x)⟩
  · obtain ⟨k9, k11⟩ := h9 ht
    rw [upB_ne (Ne.symm k9)] at hl
    obtain ⟨a0, S, a, b, c⟩ := h.p9 ht hl
    exact ⟨by rw [upB_ne (Ne.symm h2)]; exact a0, S, by rw [upV_ne (Ne.symm k9)]; exact a, b, fun x => c (by rw [upB_ne (Ne.symm k11)] at x; exact x)⟩
theorem Jd.new0 (h : Jd W PB TB g1 g2 pa pb pc pd E two l vs w) (hs : Sch w' w.heap.size []) (hb : Below w.heap.size w w') : Jd W PB TB g1 g2 pa pb pc pd E two (upB l 0) (upV vs 0 (Value.pointer (some ⟨w.heap.size, 0, none⟩))) w' := by
  refine ⟨h.dk.on hb, h.evs 0 (fun a _ => absurd rfl a), fun _ => ⟨_, upV_eq, h.dk.below.size, fun _ => hs⟩, fun ht hl => ?_⟩
  rw [upB_ne (by decide)] at hl
  obtain ⟨a0, S, a, b, c⟩ := h.p9 ht hl
  exact ⟨by rw [upB_ne (by decide)]; exact a0, S, by rw [upV_ne (by decide)]; exact a, b, fun x => (c (by rw [upB_ne (by decide)] at x; exact x)).later hb⟩
theorem Jd.add2 (h : Jd W PB TB g1 g2 pa pb pc pd E two l vs w) (h2 : l 2 = false) {S : Nat} {ts : List T} (hs : Sch w S ts) (hW : W.heap.size ≤ S) (h0 : vs 0 = (Value.pointer (some ⟨S, 0, none⟩))) (hc : Chg (fun b => b = S) w w') : Jd W PB TB g1 g2 pa pb pc pd E two (upB l 2) (upV vs 2 (E 2)) w' := by
  refine ⟨h.dk.chg hs hW hc, h.evs 2 (fun _ _ => rfl), fun _ => ⟨S, by rw [upV_ne (by decide)]; exact h0, hW, fun x => (by rw [upB_eq] at x; cases x)⟩, fun ht hl => ?_⟩
  rw [upB_ne (by decide)] at hl
  obtain ⟨a0, _⟩ := h.p9 ht hl
  rw [h2] at a0; cases a0
theorem Jd.new9 (h : Jd W PB TB g1 g2 pa pb pc pd E true l vs w) (h2 : l 2 = true) (hs : Sch w' w.heap.size []) (hb : Below w.heap.size w w') : Jd W PB TB g1 g2 pa pb pc pd E true (upB l 9) (upV vs 9 (Value.pointer (some ⟨w.heap.size, 0, none⟩))) w' := by
  refine ⟨h.dk.on hb, h.evs 9 (fun _ a => absurd rfl (a rfl)), fun hl => ?_, fun ht hl => ⟨by rw [upB_ne (by decide)]; exact h2, _, upV_eq, h.dk.below.size, fun _ => hs⟩⟩
  rw [upB_ne (by decide)] at hl
  obtain ⟨S, a, b, c⟩ := h.p0 hl
  exact ⟨S, by rw [upV_ne (by decide)]; exact a, b, fun x => (c (by rw [upB_ne (by decide)] at x; exact x)).later hb⟩
theorem Jd.add11 (h : Jd W PB TB g1 g2 pa pb pc pd E true l vs w) (h2 : l 2 = true) {S : Nat} {ts : List T} (hs : Sch w S ts) (hW : W.heap.size ≤ S) (h0 : vs 9 = (Value.pointer (some ⟨S, 0, none⟩))) (hc : Chg (fun b => b = S) w w') : Jd W PB TB g1 g2 pa pb pc pd E true (upB l 11) (upV vs 11 (E 11)) w' := by
  refine ⟨h.dk.chg hs hW hc, h.evs 11 (fun _ _ => rfl), fun hl => ?_, fun ht hl => ⟨by rw [upB_ne (by decide)]; exact h2, S, by rw [upV_ne (by decide)]; exact h0, hW, fun x => (by rw [upB_eq] at x; cases x)⟩⟩
  rw [upB_ne (by decide)] at hl
  obtain ⟨S', a, b, c⟩ := h.p0 hl
  exact ⟨S', by rw [upV_ne (by decide)]; exact a, b, fun x => (by rw [upB_ne (by decide)] at x; rw [h2] at x; cases x)⟩
end
set_option maxRecDepth 100000 in
set_option maxHeartbeats 4000000 in
theorem deps_walk (a b c d : Int) (W : World) : Calls Try.prog 7 #[.int .i64 a, .int .i64 b, .int .i64 c, .int .i64 d] W fun e w' => e = .returned (.bool true) ∧ Below W.heap.size W w' := by
  obtain ⟨xa, ka, a1, a2, a3, a4, a5⟩ := tmod_up a
  obtain ⟨xb, kb, b1, b2, b3, b4, b5⟩ := tmod_up b
  obtain ⟨xc, kc, c1, c2, c3, c4, c5⟩ := tmod_up c
  obtain ⟨xd, kd, d1, d2, d3, d4, d5⟩ := tmod_up d
  go_enter Try.func7, Try.ntmps7
  go_upto_region 5 with (go_at_call 8; (with_reducible refine (begun_any _).mono ?_); rintro e w0 ⟨rfl, hb0⟩)
  have hn := heap_alloc_new w0 (.cells #[.string bX, .string cY, .string cZ, .string cW, .string bNone] 9)
  have hb1 := hb0.alloc hb0.size (.cells #[.string bX, .string cY, .string cZ, .string cW, .string bNone] 9)
  obtain ⟨NB, hNB⟩ : ∃ NB, w0.heap.size = NB := ⟨_, rfl⟩
  obtain ⟨w1, hw1⟩ : ∃ w1, w0.alloc (.cells #[.string bX, .string cY, .string cZ, .string cW, .string bNone] 9) = w1 := ⟨_, rfl⟩
  rw [hw1, hNB] at hn ⊢
  rw [hw1] at hb1
  have H1 := Lib.hid (And.intro hn hb1)
  have ia : (ka : Int) < 5 := by omega
  have ib : (kb : Int) < 5 := by omega
  have ic : (kc : Int) < 5 := by omega
  have id' : (kd : Int) < 5 := by omega
  have wa : IntKind.i64.wrap (xa + 5) = xa + 5 := by rw [IntKind.wrap_i64]; omega
  have wb : IntKind.i64.wrap (xb + 5) = xb + 5 := by rw [IntKind.wrap_i64]; omega
  have wc : IntKind.i64.wrap (xc + 5) = xc + 5 := by rw [IntKind.wrap_i64]; omega
  have wd : IntKind.i64.wrap (xd + 5) = xd + 5 := by rw [IntKind.wrap_i64]; omega
  clear hw1 hNB hn hb0 hb1
  refine Par.wp_region_par2 30 (fun w => w.heap[NB]? = some (.cells #[.string bX, .string cY, .string cZ, .string cW, .string bNone] 9) ∧ Below W.heap.size W w) (Par.VL [(.eq (.slice (some ⟨NB, 0, none⟩) 5 5)), (.eq (.int .i64 a)), (.eq (.int .i64 xa)), (.eq (.int .i64 (xa + 5))), (.eq (.int .i64 ka)), (.eq (Value.pointer (some ⟨NB, ka, none⟩))), (.eq (.string (nm5 ka))), (.eq (.slice (some ⟨NB, 0, none⟩) 5 5)), (.eq (.int .i64 b)), (.eq (.int .i64 xb)), (.eq (.int .i64 (xb + 5))), (.eq (.int .i64 kb)), (.eq (Value.pointer (some ⟨NB, kb, none⟩))), (.eq (.string (nm5 kb))), (.eq (.slice (some ⟨NB, 0, none⟩) 5 5)), (.eq (.int .i64 c)), (.eq (.int .i64 xc)), (.eq (.int .i64 (xc + 5))), (.eq (.int .i64 kc)), (.eq (Value.pointer (some ⟨NB, kc, none⟩))), (.eq (.string (nm5 kc))), (.eq (.slice (some ⟨NB, 0, none⟩) 5 5)), (.eq (.int .i64 d)), (.eq (.int .i64 xd)), (.eq (.int .i64 (xd + 5))), (.eq (.int .i64 kd)), (.eq (Value.pointer (some ⟨NB, kd, none⟩))), (.eq (.string (nm5 kd))), (.eq (.agg #[.string (nm5 ka), .string (nm5 kb), .string (nm5 kc), .string (nm5 kd)])), (.objN W.heap.size (fun g => (Value.pointer (some ⟨g, 0, none⟩))) (.cells #[.string e0, .string e0, .string e0, .string e0] 55))]) ?A1 ?hm1 ?hB1 (fun w w' h hb => ⟨heap_on hb h.1, below_on h.2 hb⟩) (Par.VL.mono _) ?hA1 (⟨H1.out.1, H1.out.2.drew⟩) ?hop1 ?hT1
  case hm1 => kernel_rfl
  case hB1 => kernel_rfl
  case hA1 =>
    intro vs
    simp only [Par.putA, Par.dstAt, Act.put, List.getElem?_toArray, List.getElem?_cons_zero, List.getElem?_cons_succ, Option.bind_some, List.setIfInBounds_toArray, List.set_cons_zero, List.set_cons_succ]
    rfl
  case hop1 =>
    simp only [List.take_succ_cons, List.take_zero, Par.GiveAllV, and_true]
    refine ⟨fun vs w hK hd => ?_, fun vs w hK hd => ?_, fun vs w hK hd => ?_, fun vs w hK hd => ?_, fun vs w hK hd => ?_, fun vs w hK hd => ?_, fun vs w hK hd => ?_, fun vs w hK hd => ?_, fun vs w hK hd => ?_, fun vs w hK hd => ?_, fun vs w hK hd => ?_, fun vs w hK hd => ?_, fun vs w hK hd => ?_, fun vs w hK hd => ?_, fun vs w hK hd => ?_, fun vs w hK hd => ?_, fun vs w hK hd => ?_, fun vs w hK hd => ?_, fun vs w hK hd => ?_, fun vs w hK hd => ?_, fun vs w hK hd => ?_, fun vs w hK hd => ?_, fun vs w hK hd => ?_, fun vs w hK hd => ?_, fun vs w hK hd => ?_, fun vs w hK hd => ?_, fun vs w hK hd => ?_, fun vs w hK hd => ?_, fun vs w hK hd => ?_, fun vs w hK hd => ?_⟩
    · clear hd
      simp only [Par.GivesV]
      go_simp
      all_goals exact ⟨rfl, Below.refl _ _⟩
    · clear hd
      simp only [Par.GivesV]
      go_simp
      all_goals exact ⟨rfl, Below.refl _ _⟩
    · have d1 := hd 1 (by decide) (by kernel_rfl)
      replace d1 : vs 1 = (.int .i64 a) := d1
      clear hd
      simp only [Par.GivesV, d1]
      go_simp
      all_goals exact ⟨rfl, Below.refl _ _⟩
    · have d2 := hd 2 (by decide) (by kernel_rfl)
      replace d2 : vs 2 = (.int .i64 xa) := d2
      clear hd
      simp only [Par.GivesV, d2]
      go_simp
      all_goals exact ⟨rfl, Below.refl _ _⟩
    · have d3 := hd 3 (by decide) (by kernel_rfl)
      replace d3 : vs 3 = (.int .i64 (xa + 5)) := d3
      clear hd
      simp only [Par.GivesV, d3]
      go_simp
      all_goals exact ⟨rfl, Below.refl _ _⟩
    · have d0 := hd 0 (by decide) (by kernel_rfl)
      replace d0 : vs 0 = (.slice (some ⟨NB, 0, none⟩) 5 5) := d0
      have d4 := hd 4 (by decide) (by kernel_rfl)
      replace d4 : vs 4 = (.int .i64 ka) := d4
      clear hd
      simp only [Par.GivesV, d0, d4]
      go_simp
      all_goals exact ⟨rfl, Below.refl _ _⟩
    · have d5 := hd 5 (by decide) (by kernel_rfl)
      replace d5 : vs 5 = (Value.pointer (some ⟨NB, ka, none⟩)) := d5
      have z := cell5 hK.1 ka a3
      clear hd
      simp only [Par.GivesV, d5]
      go_simp
      all_goals exact ⟨rfl, Below.refl _ _⟩
    · clear hd
      simp only [Par.GivesV]
      go_simp
      all_goals exact ⟨rfl, Below.refl _ _⟩
    · clear hd
      simp only [Par.GivesV]
      go_simp
      all_goals exact ⟨rfl, Below.refl _ _⟩
    · have d8 := hd 8 (by decide) (by kernel_rfl)
      replace d8 : vs 8 = (.int .i64 b) := d8
      clear hd
      simp only [Par.GivesV, d8]
      go_simp
      all_goals exact ⟨rfl, Below.refl _ _⟩
    · have d9 := hd 9 (by decide) (by kernel_rfl)
      replace d9 : vs 9 = (.int .i64 xb) := d9
      clear hd
      simp only [Par.GivesV, d9]
      go_simp
      all_goals exact ⟨rfl, Below.refl _ _⟩
    · have d10 := hd 10 (by decide) (by kernel_rfl)
      replace d10 : vs 10 = (.int .i64 (xb + 5)) := d10
      clear hd
      simp only [Par.GivesV, d10]
      go_simp
      all_goals exact ⟨rfl, Below.refl _ _⟩
    · have d7 := hd 7 (by decide) (by kernel_rfl)
      replace d7 : vs 7 = (.slice (some ⟨NB, 0, none⟩) 5 5) := d7
      have d11 := hd 11 (by decide) (by kernel_rfl)
      replace d11 : vs 11 = (.int .i64 kb) := d11
      clear hd
      simp only [Par.GivesV, d7, d11]
      go_simp
      all_goals exact ⟨rfl, Below.refl _ _⟩
    · have d12 := hd 12 (by decide) (by kernel_rfl)
      replace d12 : vs 12 = (Value.pointer (some ⟨NB, kb, none⟩)) := d12
      have z := cell5 hK.1 kb b3
      clear hd
      simp only [Par.GivesV, d12]
      go_simp
      all_goals exact ⟨rfl, Below.refl _ _⟩
    · clear hd
      simp only [Par.GivesV]
      go_simp
      all_goals exact ⟨rfl, Below.refl _ _⟩
    · clear hd
      simp only [Par.GivesV]
      go_simp
      all_goals exact ⟨rfl, Below.refl _ _⟩
    · have d15 := hd 15 (by decide) (by kernel_rfl)
      replace d15 : vs 15 = (.int .i64 c) := d15
      clear hd
      simp only [Par.GivesV, d15]
      go_simp
      all_goals exact ⟨rfl, Below.refl _ _⟩
    · have d16 := hd 16 (by decide) (by kernel_rfl)
      replace d16 : vs 16 = (.int .i64 xc) := d16
      clear hd
      simp only [Par.GivesV, d16]
      go_simp
      all_goals exact ⟨rfl, Below.refl _ _⟩
    · have d17 := hd 17 (by decide) (by kernel_rfl)
      replace d17 : vs 17 = (.int .i64 (xc + 5)) := d17
      clear hd
      simp only [Par.GivesV, d17]
      go_simp
      all_goals exact ⟨rfl, Below.refl _ _⟩
    · have d14 := hd 14 (by decide) (by kernel_rfl)
      replace d14 : vs 14 = (.slice (some ⟨NB, 0, none⟩) 5 5) := d14
      have d18 := hd 18 (by decide) (by kernel_rfl)
      replace d18 : vs 18 = (.int .i64 kc) := d18
      clear hd
      simp only [Par.GivesV, d14, d18]
      go_simp
      all_goals exact ⟨rfl, Below.refl _ _⟩
    · have d19 := hd 19 (by decide) (by kernel_rfl)
      replace d19 : vs 19 = (Value.pointer (some ⟨NB, kc, none⟩)) := d19
      have z := cell5 hK.1 kc c3
      clear hd
      simp only [Par.GivesV, d19]
      go_simp
      all_goals exact ⟨rfl, Below.refl _ _⟩
    · clear hd
      simp only [Par.GivesV]
      go_simp
      all_goals exact ⟨rfl, Below.refl _ _⟩
    · clear hd
      simp only [Par.GivesV]
      go_simp
      all_goals exact ⟨rfl, Below.refl _ _⟩
    · have d22 := hd 22 (by decide) (by kernel_rfl)
      replace d22 : vs 22 = (.int .i64 d) := d22
      clear hd
      simp only [Par.GivesV, d22]
      go_simp
      all_goals exact ⟨rfl, Below.refl _ _⟩
    · have d23 := hd 23 (by decide) (by kernel_rfl)
      replace d23 : vs 23 = (.int .i64 xd) := d23
      clear hd
      simp only [Par.GivesV, d23]
      go_simp
      all_goals exact ⟨rfl, Below.refl _ _⟩
    · have d24 := hd 24 (by decide) (by kernel_rfl)
      replace d24 : vs 24 = (.int .i64 (xd + 5)) := d24
      clear hd
      simp only [Par.GivesV, d24]
      go_simp
      all_goals exact ⟨rfl, Below.refl _ _⟩
    · have d21 := hd 21 (by decide) (by kernel_rfl)
      replace d21 : vs 21 = (.slice (some ⟨NB, 0, none⟩) 5 5) := d21
      have d25 := hd 25 (by decide) (by kernel_rfl)
      replace d25 : vs 25 = (.int .i64 kd) := d25
      clear hd
      simp only [Par.GivesV, d21, d25]
      go_simp
      all_goals exact ⟨rfl, Below.refl _ _⟩
    · have d26 := hd 26 (by decide) (by kernel_rfl)
      replace d26 : vs 26 = (Value.pointer (some ⟨NB, kd, none⟩)) := d26
      have z := cell5 hK.1 kd d3
      clear hd
      simp only [Par.GivesV, d26]
      go_simp
      all_goals exact ⟨rfl, Below.refl _ _⟩
    · have d6 := hd 6 (by decide) (by kernel_rfl)
      replace d6 : vs 6 = (.string (nm5 ka)) := d6
      have d13 := hd 13 (by decide) (by kernel_rfl)
      replace d13 : vs 13 = (.string (nm5 kb)) := d13
      have d20 := hd 20 (by decide) (by kernel_rfl)
      replace d20 : vs 20 = (.string (nm5 kc)) := d20
      have d27 := hd 27 (by decide) (by kernel_rfl)
      replace d27 : vs 27 = (.string (nm5 kd)) := d27
      clear hd
      simp only [Par.GivesV, d6, d13, d20, d27]
      go_simp
      all_goals exact ⟨rfl, Below.refl _ _⟩
    · clear hd
      simp only [Par.GivesV]
      go_simp
      exact ⟨⟨_, hK.2.size, rfl, heap_alloc_new w _⟩, below_alloc w _⟩
  case hT1 =>
    intro vs w' hK hV
    simp only [List.drop_succ_cons, List.drop_zero]
    have d0 := hV 0 (by decide)
    replace d0 : vs 0 = (.slice (some ⟨NB, 0, none⟩) 5 5) := d0
    have d1 := hV 1 (by decide)
    replace d1 : vs 1 = (.int .i64 a) := d1
    have d2 := hV 2 (by decide)
    replace d2 : vs 2 = (.int .i64 xa) := d2
    have d3 := hV 3 (by decide)
    replace d3 : vs 3 = (.int .i64 (xa + 5)) := d3
    have d4 := hV 4 (by decide)
    replace d4 : vs 4 = (.int .i64 ka) := d4
    have d5 := hV 5 (by decide)
    replace d5 : vs 5 = (Value.pointer (some ⟨NB, ka, none⟩)) := d5
    have d6 := hV 6 (by decide)
    replace d6 : vs 6 = (.string (nm5 ka)) := d6
    have d7 := hV 7 (by decide)
    replace d7 : vs 7 = (.slice (some ⟨NB, 0, none⟩) 5 5) := d7
    have d8 := hV 8 (by decide)
    replace d8 : vs 8 = (.int .i64 b) := d8
    have d9 := hV 9 (by decide)
    replace d9 : vs 9 = (.int .i64 xb) := d9
    have d10 := hV 10 (by decide)
    replace d10 : vs 10 = (.int .i64 (xb + 5)) := d10
    have d11 := hV 11 (by decide)
    replace d11 : vs 11 = (.int .i64 kb) := d11
    have d12 := hV 12 (by decide)
    replace d12 : vs 12 = (Value.pointer (some ⟨NB, kb, none⟩)) := d12
    have d13 := hV 13 (by decide)
    replace d13 : vs 13 = (.string (nm5 kb)) := d13
    have d14 := hV 14 (by decide)
    replace d14 : vs 14 = (.slice (some ⟨NB, 0, none⟩) 5 5) := d14
    have d15 := hV 15 (by decide)
    replace d15 : vs 15 = (.int .i64 c) := d15
    have d16 := hV 16 (by decide)
    replace d16 : vs 16 = (.int .i64 xc) := d16
    have d17 := hV 17 (by decide)
    replace d17 : vs 17 = (.int .i64 (xc + 5)) := d17
    have d18 := hV 18 (by decide)
    replace d18 : vs 18 = (.int .i64 kc) := d18
    have d19 := hV 19 (by decide)
    replace d19 : vs 19 = (Value.pointer (some ⟨NB, kc, none⟩)) := d19
    have d20 := hV 20 (by decide)
    replace d20 : vs 20 = (.string (nm5 kc)) := d20
    have d21 := hV 21 (by decide)
    replace d21 : vs 21 = (.slice (some ⟨NB, 0, none⟩) 5 5) := d21
    have d22 := hV 22 (by decide)
    replace d22 : vs 22 = (.int .i64 d) := d22
    have d23 := hV 23 (by decide)
    replace d23 : vs 23 = (.int .i64 xd) := d23
    have d24 := hV 24 (by decide)
    replace d24 : vs 24 = (.int .i64 (xd + 5)) := d24
    have d25 := hV 25 (by decide)
    replace d25 : vs 25 = (.int .i64 kd) := d25
    have d26 := hV 26 (by decide)
    replace d26 : vs 26 = (Value.pointer (some ⟨NB, kd, none⟩)) := d26
    have d27 := hV 27 (by decide)
    replace d27 : vs 27 = (.string (nm5 kd)) := d27
    have d28 := hV 28 (by decide)
    replace d28 : vs 28 = (.agg #[.string (nm5 ka), .string (nm5 kb), .string (nm5 kc), .string (nm5 kd)]) := d28
    have d29 := hV 29 (by decide)
    clear hV
    simp only [d0, d1, d2, d3, d4, d5, d6, d7, d8, d9, d10, d11, d12, d13, d14, d15, d16, d17, d18, d19, d20, d21, d22, d23, d24, d25, d26, d27, d28]
    clear d0 d1 d2 d3 d4 d5 d6 d7 d8 d9 d10 d11 d12 d13 d14 d15 d16 d17 d18 d19 d20 d21 d22 d23 d24 d25 d26 d27 d28
    obtain ⟨PB, hPW, d29, hPB⟩ := d29
    rw [d29]
    clear wa wb wc wd a1 a2 b1 b2 c1 c2 d1 d2 a4 a5 b4 b5 c4 c5 d4 d5
    have z0 := nd_cell hPB 0
    have z1 := nd_cell hPB 1
    have z2 := nd_cell hPB 2
    have z3 := nd_cell hPB 3
    have zf := fun i => frozen_of_row w' PB i _ _ hPB
    have zl := lt_of_heap hPB
    have HP := Lib.hid (And.intro hPB (And.intro hPW hK.2))
    clear hPB hPW hK d29
    go_upto_region 6 with fail
    have hP := set4 HP.out.1 (.string (nm5 ka)) (.string (nm5 kb)) (.string (nm5 kc)) (.string (nm5 kd))
    have hQ := below_set4 HP.out.2.2 HP.out.2.1 (.string (nm5 ka)) (.string (nm5 kb)) (.string (nm5 kc)) (.string (nm5 kd))
    clear z0 z1 z2 z3 zf zl ia ib ic id'
    have HPW := Lib.hid HP.out.2.1
    clear HP
    generalize (((w'.setCell _ _).setCell _ _).setCell _ _).setCell _ _ = w2 at hP hQ ⊢
    have HK := Lib.hid (And.intro hP hQ)
    clear hP hQ
    have HMA := Lib.hid (deps_all ka a3 kb b3 kc c3 kd d3)
    generalize nm5 ka = pa at *
    generalize nm5 kb = pb at *
    generalize nm5 kc = pc at *
    generalize nm5 kd = pd at *
    refine Par.wp_region_par2 12 (fun w => w.heap[PB]? = some (.cells #[.string pa, .string pb, .string pc, .string pd] 55) ∧ Below W.heap.size W w) (Par.VL [(.eq (.agg #[.string bX, .int .i64 1, .bool false, .string e0])), (.eq (.agg #[.string cY, .int .i64 1, .bool false, .string e0])), (.eq (.agg #[.string cZ, .int .i64 1, .bool false, .string e0])), (.eq (.agg #[.string cW, .int .i64 1, .bool false, .string e0])), (.obj (fun g => .slice (some ⟨g, 0, none⟩) 4 4) (.cells #[.string bX, .int .i64 1, .bool false, .string e0, .string cY, .int .i64 1, .bool false, .string e0, .string cZ, .int .i64 1, .bool false, .string e0, .string cW, .int .i64 1, .bool false, .string e0] 43)), (.eq (.slice (some ⟨PB, 0, none⟩) 3 4)), (.eq (Value.pointer (some ⟨PB, 3, none⟩))), (.eq (.string pd)), (.eq (.agg #[.slice (some ⟨PB, 0, none⟩) 3 4, .string pd])), (.obj (fun g => .slice (some ⟨g, 0, none⟩) 1 1) (.cells #[.slice (some ⟨PB, 0, none⟩) 3 4, .string pd] 53)), ((madeT PB pd)), (.objN W.heap.size (fun g => (Value.pointer (some ⟨g, 0, none⟩))) (boxT e0 (.slice none 0 0) e0 (.slice none 0 0)))]) ?A2 ?hm2 ?hB2 (fun w w' h hb => ⟨heap_on hb h.1, below_on h.2 hb⟩) (Par.VL.mono _) ?hA2 (⟨heap_on (below_drew w2) HK.out.1, HK.out.2.drew⟩) ?hop2 ?hT2
    case hm2 => kernel_rfl
    case hB2 => kernel_rfl
    case hA2 =>
      intro vs
      simp only [Par.putA, Par.dstAt, Act.put, List.getElem?_toArray, List.getElem?_cons_zero, List.getElem?_cons_succ, Option.bind_some, List.setIfInBounds_toArray, List.set_cons_zero, List.set_cons_succ]
      rfl
    case hop2 =>
      simp only [List.take_succ_cons, List.take_zero, Par.GiveAllV, and_true]
      refine ⟨fun vs w hK hd => ?_, fun vs w hK hd => ?_, fun vs w hK hd => ?_, fun vs w hK hd => ?_, fun vs w hK hd => ?_, fun vs w hK hd => ?_, fun vs w hK hd => ?_, fun vs w hK hd => ?_, fun vs w hK hd => ?_, fun vs w hK hd => ?_, fun vs w hK hd => ?_, fun vs w hK hd => ?_⟩
      · clear hd
        simp only [Par.GivesV]
        go_simp
        exact (lcol_any bX e0 1 w).mono (fun e w'' h => ⟨_, h.1, ⟨rfl, h.2⟩⟩)
      · clear hd
        simp only [Par.GivesV]
        go_simp
        exact (lcol_any cY e0 1 w).mono (fun e w'' h => ⟨_, h.1, ⟨rfl, h.2⟩⟩)
      · clear hd
        simp only [Par.GivesV]
        go_simp
        exact (lcol_any cZ e0 1 w).mono (fun e w'' h => ⟨_, h.1, ⟨rfl, h.2⟩⟩)
      · clear hd
        simp only [Par.GivesV]
        go_simp
        exact (lcol_any cW e0 1 w).mono (fun e w'' h => ⟨_, h.1, ⟨rfl, h.2⟩⟩)
      · have d0 := hd 0 (by decide) (by kernel_rfl)
        replace d0 : vs 0 = (.agg #[.string bX, .int .i64 1, .bool false, .string e0]) := d0
        have d1 := hd 1 (by decide) (by kernel_rfl)
        replace d1 : vs 1 = (.agg #[.string cY, .int .i64 1, .bool false, .string e0]) := d1
        have d2 := hd 2 (by decide) (by kernel_rfl)
        replace d2 : vs 2 = (.agg #[.string cZ, .int .i64 1, .bool false, .string e0]) := d2
        have d3 := hd 3 (by decide) (by kernel_rfl)
        replace d3 : vs 3 = (.agg #[.string cW, .int .i64 1, .bool false, .string e0]) := d3
        clear hd
        simp only [Par.GivesV, d0, d1, d2, d3]
        go_simp
        exact ⟨⟨_, rfl, heap_alloc_new w _⟩, below_alloc w _⟩
      · have k := slice55 PB w
        clear hd
        simp only [Par.GivesV]
        go_simp
        all_goals exact ⟨rfl, Below.refl _ _⟩
      · clear hd
        simp only [Par.GivesV]
        go_simp
        all_goals exact ⟨rfl, Below.refl _ _⟩
      · have d6 := hd 6 (by decide) (by kernel_rfl)
        replace d6 : vs 6 = (Value.pointer (some ⟨PB, 3, none⟩)) := d6
        have k := nd_cell hK.1 3
        clear hd
        simp only [Par.GivesV, d6]
        go_simp
        all_goals exact ⟨rfl, Below.refl _ _⟩
      · have d5 := hd 5 (by decide) (by kernel_rfl)
        replace d5 : vs 5 = (.slice (some ⟨PB, 0, none⟩) 3 4) := d5
        have d7 := hd 7 (by decide) (by kernel_rfl)
        replace d7 : vs 7 = (.string pd) := d7
        clear hd
        simp only [Par.GivesV, d5, d7]
        go_simp
        all_goals exact ⟨rfl, Below.refl _ _⟩
      · have d8 := hd 8 (by decide) (by kernel_rfl)
        replace d8 : vs 8 = (.agg #[.slice (some ⟨PB, 0, none⟩) 3 4, .string pd]) := d8
        clear hd
        simp only [Par.GivesV, d8]
        go_simp
        exact ⟨⟨_, rfl, heap_alloc_new w _⟩, below_alloc w _⟩
      · have d4 := hd 4 (by decide) (by kernel_rfl)
        have d9 := hd 9 (by decide) (by kernel_rfl)
        obtain ⟨g4, d4, k4⟩ := d4
        obtain ⟨g9, d9, k9⟩ := d9
        clear hd
        simp only [Par.GivesV]
        go_simp
        exact ⟨⟨g4, g9, rfl, k4, k9⟩, Below.refl _ _⟩
      · clear hd
        simp only [Par.GivesV]
        go_simp
        exact ⟨⟨_, hK.2.size, rfl, heap_alloc_new w _⟩, below_alloc w _⟩
    case hT2 =>
      intro vs w' hK hV
      simp only [List.drop_succ_cons, List.drop_zero]
      have d0 := hV 0 (by decide)
      replace d0 : vs 0 = (.agg #[.string bX, .int .i64 1, .bool false, .string e0]) := d0
      have d1 := hV 1 (by decide)
      replace d1 : vs 1 = (.agg #[.string cY, .int .i64 1, .bool false, .string e0]) := d1
      have d2 := hV 2 (by decide)
      replace d2 : vs 2 = (.agg #[.string cZ, .int .i64 1, .bool false, .string e0]) := d2
      have d3 := hV 3 (by decide)
      replace d3 : vs 3 = (.agg #[.string cW, .int .i64 1, .bool false, .string e0]) := d3
      have d4 := hV 4 (by decide)
      have d5 := hV 5 (by decide)
      replace d5 : vs 5 = (.slice (some ⟨PB, 0, none⟩) 3 4) := d5
      have d6 := hV 6 (by decide)
      replace d6 : vs 6 = (Value.pointer (some ⟨PB, 3, none⟩)) := d6
      have d7 := hV 7 (by decide)
      replace d7 : vs 7 = (.string pd) := d7
      have d8 := hV 8 (by decide)
      replace d8 : vs 8 = (.agg #[.slice (some ⟨PB, 0, none⟩) 3 4, .string pd]) := d8
      have d9 := hV 9 (by decide)
      have d10 := hV 10 (by decide)
      have d11 := hV 11 (by decide)
      clear hV
      simp only [d0, d1, d2, d3, d5, d6, d7, d8]
      clear d0 d1 d2 d3 d5 d6 d7 d8
      obtain ⟨g1, g2, d10, k1, k2⟩ := d10
      obtain ⟨TB, hTW, d11, hTB⟩ := d11
      rw [d10, d11]
      clear d10 d11
      have z0 := nd_cell hTB 0
      have z1 := nd_cell hTB 1
      have z2 := nd_cell hTB 2
      have z3 := nd_cell hTB 3
      have zf := fun i => frozen_of_row w' TB i _ _ hTB
      have zl := lt_of_heap hTB
      have hDk := dk_start k1 k2 hK.1 hTB hK.2 hTW
      have HD := Lib.hid hDk
      clear hDk hTB hTW hK k1 k2
      go_upto_region 7 with fail
      have hDk := HD.out
      clear HD z0 z1 z2 z3 zf zl
      generalize (((w'.setCell _ _).setCell _ _).setCell _ _).setCell _ _ = w3 at hDk ⊢
      have HD := Lib.hid hDk
      clear hDk
      go_upto_block 0 with fail
      go_cut [13] from 300 to 300 (fun gv wx => gv = .bool (valP (pkL pa pb pc pd) 4) ∧ Dk W PB TB g1 g2 pa pb pc pd wx)
      case first =>
        go_wp2_with fail
        go_loopg [13, 14, 15] 5 (fun gh gv iv _ w => ∃ (i : Nat), iv = .int .i64 (i : Int) ∧ i ≤ 4 ∧ 5 ≤ i + gh ∧ gv = .bool (valP (pkL pa pb pc pd) i) ∧ Dk W PB TB g1 g2 pa pb pc pd w)
        case atStart => exact ⟨0, rfl, by omega, by omega, rfl, HD.out⟩
        case round =>
          obtain ⟨i, rfl, hi, hg, rfl, hK⟩ := hrel
          by_cases hlt : i < 4
          · have c0 := cellP hK i hlt
            have cl := lt_of_heap hK.pick
            obtain ⟨pi, hpi⟩ : ∃ p, pkL pa pb pc pd i = p := ⟨_, rfl⟩
            rw [hpi] at c0
            have hv1 : Hid (valP (pkL pa pb pc pd) i = false → valP (pkL pa pb pc pd) i = innP (pkL pa pb pc pd) i 0) := Lib.hid (fun h => innP_no h 0)
            have HK := Lib.hid hK
            clear hK
            go_upto_block 1 with fail
            go_cut [13] from 300 to 300 (fun gv wx => gv = .bool (innP (pkL pa pb pc pd) i i) ∧ Dk W PB TB g1 g2 pa pb pc pd wx)
            case first =>
              go_upto_region 11 with fail
              go_cut [13] from 300 to 300 (fun gv wx => gv = .bool (innP (pkL pa pb pc pd) i 0) ∧ wx = wr)
              case first =>
                have h0 : innP (pkL pa pb pc pd) i 0 = (valP (pkL pa pb pc pd) i && !eqS pi bNone) := by rw [← hpi]; unfold innP; simp
                clear hv1 hpi
                cases hv : valP (pkL pa pb pc pd) i
                · have HS : Hid (Value.bool false = .bool (innP (pkL pa pb pc pd) i 0)) := Lib.hid (by rw [h0, hv]; rfl)
                  clear h0
                  go_wp2_with fail
                  go_meet
                  exact ⟨HS.out, rfl⟩
                · cases hn : eqS pi bNone
                  · have e1 : (pi.toList == [110, 111, 110, 101]) = false := by rw [ByteArray.toList_eq]; exact hn
                    have HS : Hid (Value.bool true = .bool (innP (pkL pa pb pc pd) i 0)) := Lib.hid (by rw [h0, hv, hn]; rfl)
                    clear h0
                    go_wp2_with fail
                    go_meet
                    exact ⟨HS.out, rfl⟩
                  · have e1 : (pi.toList == [110, 111, 110, 101]) = true := by rw [ByteArray.toList_eq]; exact hn
                    have HS : Hid (Value.bool false = .bool (innP (pkL pa pb pc pd) i 0)) := Lib.hid (by rw [h0, hv, hn]; rfl)
                    clear h0
                    go_wp2_with fail
                    go_meet
                    exact ⟨HS.out, rfl⟩
              case rest =>
                obtain ⟨rfl, rfl⟩ := hcut
                clear c0
                go_wp2_with fail
                go_loopg [13, 15] (i + 1) (fun gh gv kv w => ∃ (k : Nat), kv = .int .i64 (k : Int) ∧ k ≤ i ∧ i + 1 ≤ k + gh ∧ gv = .bool (innP (pkL pa pb pc pd) i k) ∧ Dk W PB TB g1 g2 pa pb pc pd w)
                case atStart => exact ⟨0, rfl, by omega, by omega, rfl, HK.out⟩
                case round =>
                  obtain ⟨k, rfl, hk, hg2, rfl, hK2⟩ := hrel
                  by_cases hlk : k < i
                  · have c0 := cellP hK2 i hlt
                    have c1 := cellP hK2 k (by omega)
                    have cl := lt_of_heap hK2.pick
                    rw [hpi] at c0
                    obtain ⟨pk, hpk⟩ : ∃ p, pkL pa pb pc pd k = p := ⟨_, rfl⟩
                    rw [hpk] at c1
                    have hs : innP (pkL pa pb pc pd) i (k + 1) = (innP (pkL pa pb pc pd) i k && !eqS pi pk) := by rw [innP_succ, ← hpi, ← hpk]; rfl
                    have HK2 := Lib.hid hK2
                    have hi4 : (i : Int) < 4 := by omega
                    have hk4 : (k : Int) < 4 := by omega
                    clear hK2
                    go_upto_region 15 with fail
                    cases hv : innP (pkL pa pb pc pd) i k
                    · rw [hv] at hs
                      have HS : Hid (Value.bool false = .bool (innP (pkL pa pb pc pd) i (k + 1))) := Lib.hid (by rw [hs]; rfl)
                      clear hs
                      refine Par.wp_region_par 10 [.bool false, .bool false, undef, undef, undef, undef, undef, undef, undef, .bool false] (fun w => w = wr.drew) ?A3 ?hm3 ?hB3 ?hA3 (rfl) ?hop3 ?hT3
                      case hm3 => kernel_rfl
                      case hB3 => kernel_rfl
                      case hA3 =>
                        simp only [Par.putA, Par.dstAt, Act.put, List.getElem?_toArray, List.getElem?_cons_zero, List.getElem?_cons_succ, Option.bind_some, List.setIfInBounds_toArray, List.set_cons_zero, List.set_cons_succ, List.getD_cons_zero, List.getD_cons_succ]
                        rfl
                      case hop3 =>
                        simp only [List.take_succ_cons, List.take_zero, Par.GiveAll, and_true]
                        refine ⟨fun w' hR => ?_, fun w' hR => ?_, fun w' hR => ?_, fun w' hR => ?_, fun w' hR => ?_, fun w' hR => ?_, fun w' hR => ?_, fun w' hR => ?_, fun w' hR => ?_, fun w' hR => ?_⟩
                        · have HR := Lib.hid hR
                          obtain rfl := hR
                          simp only [Par.Gives]
                          go_simp
                          all_goals exact HR.out
                        · have HR := Lib.hid hR
                          obtain rfl := hR
                          simp only [Par.Gives]
                          go_simp
                          all_goals exact HR.out
                        · have HR := Lib.hid hR
                          obtain rfl := hR
                          simp only [Par.Gives]
                          go_simp
                          all_goals exact HR.out
                        · have HR := Lib.hid hR
                          obtain rfl := hR
                          simp only [Par.Gives]
                          go_simp
                          all_goals exact HR.out
                        · have HR := Lib.hid hR
                          obtain rfl := hR
                          simp only [Par.Gives]
                          go_simp
                          all_goals exact HR.out
                        · have HR := Lib.hid hR
                          obtain rfl := hR
                          simp only [Par.Gives]
                          go_simp
                          all_goals exact HR.out
                        · have HR := Lib.hid hR
                          obtain rfl := hR
                          simp only [Par.Gives]
                          go_simp
                          all_goals exact HR.out
                        · have HR := Lib.hid hR
                          obtain rfl := hR
                          simp only [Par.Gives]
                          go_simp
                          all_goals exact HR.out
                        · have HR := Lib.hid hR
                          obtain rfl := hR
                          simp only [Par.Gives]
                          go_simp
                          all_goals exact HR.out
                        · have HR := Lib.hid hR
                          obtain rfl := hR
                          simp only [Par.Gives]
                          go_simp
                          all_goals exact HR.out
                      case hT3 =>
                        intro w' hR
                        simp only [List.drop_succ_cons, List.drop_zero]
                        obtain rfl := hR
                        go_wp2_with fail
                        go_roundg (i - k)
                        case measure => omega
                        case rel => exact ⟨k + 1, by go_num, by omega, by omega, HS.out, HK2.out.on (below_drew wr)⟩
                    · rw [hv] at hs
                      cases hn : eqS pi pk
                      · have e1 : (pi.toList == pk.toList) = false := by rw [eqS_toList]; exact hn
                        have HS : Hid (Value.bool true = .bool (innP (pkL pa pb pc pd) i (k + 1))) := Lib.hid (by rw [hs, hn]; rfl)
                        clear hs
                        refine Par.wp_region_par 10 [.bool true, .bool true, (Value.int .i64 ((i : Int))), (Value.pointer (some ⟨PB, i, none⟩)), (Value.string (pi)), (Value.int .i64 ((k : Int))), (Value.pointer (some ⟨PB, k, none⟩)), (Value.string (pk)), .bool true, .bool true] (fun w => w = wr.drew) ?A4 ?hm4 ?hB4 ?hA4 (rfl) ?hop4 ?hT4
                        case hm4 => kernel_rfl
                        case hB4 => kernel_rfl
                        case hA4 =>
                          simp only [Par.putA, Par.dstAt, Act.put, List.getElem?_toArray, List.getElem?_cons_zero, List.getElem?_cons_succ, Option.bind_some, List.setIfInBounds_toArray, List.set_cons_zero, List.set_cons_succ, List.getD_cons_zero, List.getD_cons_succ]
                          rfl
                        case hop4 =>
                          simp only [List.take_succ_cons, List.take_zero, Par.GiveAll, and_true]
                          refine ⟨fun w' hR => ?_, fun w' hR => ?_, fun w' hR => ?_, fun w' hR => ?_, fun w' hR => ?_, fun w' hR => ?_, fun w' hR => ?_, fun w' hR => ?_, fun w' hR => ?_, fun w' hR => ?_⟩
                          · have HR := Lib.hid hR
                            obtain rfl := hR
                            simp only [Par.Gives]
                            go_simp
                            all_goals exact HR.out
                          · have HR := Lib.hid hR
                            obtain rfl := hR
                            simp only [Par.Gives]
                            go_simp
                            all_goals exact HR.out
                          · have HR := Lib.hid hR
                            obtain rfl := hR
                            simp only [Par.Gives]
                            go_simp
                            all_goals exact HR.out
                          · have HR := Lib.hid hR
                            obtain rfl := hR
                            simp only [Par.Gives]
                            go_simp
                            all_goals exact HR.out
                          · have HR := Lib.hid hR
                            obtain rfl := hR
                            simp only [Par.Gives]
                            go_simp
                            all_goals exact HR.out
                          · have HR := Lib.hid hR
                            obtain rfl := hR
                            simp only [Par.Gives]
                            go_simp
                            all_goals exact HR.out
                          · have HR := Lib.hid hR
                            obtain rfl := hR
                            simp only [Par.Gives]
                            go_simp
                            all_goals exact HR.out
                          · have HR := Lib.hid hR
                            obtain rfl := hR
                            simp only [Par.Gives]
                            go_simp
                            all_goals exact HR.out
                          · have HR := Lib.hid hR
                            obtain rfl := hR
                            simp only [Par.Gives]
                            go_simp
                            all_goals exact HR.out
                          · have HR := Lib.hid hR
                            obtain rfl := hR
                            simp only [Par.Gives]
                            go_simp
                            all_goals exact HR.out
                        case hT4 =>
                          intro w' hR
                          simp only [List.drop_succ_cons, List.drop_zero]
                          obtain rfl := hR
                          go_wp2_with fail
                          go_roundg (i - k)
                          case measure => omega
                          case rel => exact ⟨k + 1, by go_num, by omega, by omega, HS.out, HK2.out.on (below_drew wr)⟩
                      · have e1 : (pi.toList == pk.toList) = true := by rw [eqS_toList]; exact hn
                        have HS : Hid (Value.bool false = .bool (innP (pkL pa pb pc pd) i (k + 1))) := Lib.hid (by rw [hs, hn]; rfl)
                        clear hs
                        refine Par.wp_region_par 10 [.bool true, .bool true, (Value.int .i64 ((i : Int))), (Value.pointer (some ⟨PB, i, none⟩)), (Value.string (pi)), (Value.int .i64 ((k : Int))), (Value.pointer (some ⟨PB, k, none⟩)), (Value.string (pk)), .bool false, .bool false] (fun w => w = wr.drew) ?A5 ?hm5 ?hB5 ?hA5 (rfl) ?hop5 ?hT5
                        case hm5 => kernel_rfl
                        case hB5 => kernel_rfl
                        case hA5 =>
                          simp only [Par.putA, Par.dstAt, Act.put, List.getElem?_toArray, List.getElem?_cons_zero, List.getElem?_cons_succ, Option.bind_some, List.setIfInBounds_toArray, List.set_cons_zero, List.set_cons_succ, List.getD_cons_zero, List.getD_cons_succ]
                          rfl
                        case hop5 =>
                          simp only [List.take_succ_cons, List.take_zero, Par.GiveAll, and_true]
                          refine ⟨fun w' hR => ?_, fun w' hR => ?_, fun w' hR => ?_, fun w' hR => ?_, fun w' hR => ?_, fun w' hR => ?_, fun w' hR => ?_, fun w' hR => ?_, fun w' hR => ?_, fun w' hR => ?_⟩
                          · have HR := Lib.hid hR
                            obtain rfl := hR
                            simp only [Par.Gives]
                            go_simp
                            all_goals exact HR.out
                          · have HR := Lib.hid hR
                            obtain rfl := hR
                            simp only [Par.Gives]
                            go_simp
                            all_goals exact HR.out
                          · have HR := Lib.hid hR
                            obtain rfl := hR
                            simp only [Par.Gives]
                            go_simp
                            all_goals exact HR.out
                          · have HR := Lib.hid hR
                            obtain rfl := hR
                            simp only [Par.Gives]
                            go_simp
                            all_goals exact HR.out
                          · have HR := Lib.hid hR
                            obtain rfl := hR
                            simp only [Par.Gives]
                            go_simp
                            all_goals exact HR.out
                          · have HR := Lib.hid hR
                            obtain rfl := hR
                            simp only [Par.Gives]
                            go_simp
                            all_goals exact HR.out
                          · have HR := Lib.hid hR
                            obtain rfl := hR
                            simp only [Par.Gives]
                            go_simp
                            all_goals exact HR.out
                          · have HR := Lib.hid hR
                            obtain rfl := hR
                            simp only [Par.Gives]
                            go_simp
                            all_goals exact HR.out
                          · have HR := Lib.hid hR
                            obtain rfl := hR
                            simp only [Par.Gives]
                            go_simp
                            all_goals exact HR.out
                          · have HR := Lib.hid hR
                            obtain rfl := hR
                            simp only [Par.Gives]
                            go_simp
                            all_goals exact HR.out
                        case hT5 =>
                          intro w' hR
                          simp only [List.drop_succ_cons, List.drop_zero]
                          obtain rfl := hR
                          go_wp2_with fail
                          go_roundg (i - k)
                          case measure => omega
                          case rel => exact ⟨k + 1, by go_num, by omega, by omega, HS.out, HK2.out.on (below_drew wr)⟩
                  · obtain rfl : k = i := by omega
                    go_wp2_with fail
                    go_meet
                    exact ⟨rfl, hK2⟩
            case rest =>
              obtain ⟨rfl, hK2⟩ := hcut
              rw [innP_all]
              go_wp2_with fail
              go_roundg (4 - i)
              case measure => omega
              case rel => exact ⟨i + 1, by go_num, by omega, by omega, rfl, hK2⟩
          · obtain rfl : i = 4 := by omega
            go_wp2_with fail
            go_meet
            exact ⟨rfl, hK⟩
      case rest =>
        obtain ⟨rfl, hK⟩ := hcut
        have HD := Lib.hid hK
        clear hK
        go_upto_region 16 with fail
        cases hv : valP (pkL pa pb pc pd) 4
        · have HM : Hid (mayP [] (tD pa pb pc pd) = 3) := Lib.hid (by rw [HMA.out, hv]; rfl)
          clear hv
          refine Par.wp_region_par3 15 (Jd W PB TB g1 g2 pa pb pc pd (fun j => [undef, .agg #[.string bT, .slice (some ⟨g1, 0, none⟩) 4 4, .string e0, .slice (some ⟨g2, 0, none⟩) 1 1], .int .i64 3, .bool false, .bool false, .bool true, .bool true, .bool false, .bool false, undef, .agg #[.string bT, .slice (some ⟨g1, 0, none⟩) 4 4, .string e0, .slice (some ⟨g2, 0, none⟩) 1 1], .int .i64 3, .bool true, .bool true, .bool true].getD j undef) true) ?AAY ?hmAY ?hBAY ?hAAY ?hJAY ?hopAY ?hTAY
          case hmAY => kernel_rfl
          case hBAY => kernel_rfl
          case hAAY =>
            intro vs
            simp only [Par.putA, Par.dstAt, Act.put, List.getElem?_toArray, List.getElem?_cons_zero, List.getElem?_cons_succ, Option.bind_some, List.setIfInBounds_toArray, List.set_cons_zero, List.set_cons_succ]
            rfl
          case hJAY => exact fun vs => ⟨HD.out.on (below_drew _), fun _ _ _ h => (by cases h), fun h => (by cases h), fun _ h => (by cases h)⟩
          case hopAY =>
            simp only [List.take_succ_cons, List.take_zero, Par.GiveAllJ, and_true]
            refine ⟨fun l vs w hJ hl hd hcl => ?_, fun l vs w hJ hl hd hcl => ?_, fun l vs w hJ hl hd hcl => ?_, fun l vs w hJ hl hd hcl => ?_, fun l vs w hJ hl hd hcl => ?_, fun l vs w hJ hl hd hcl => ?_, fun l vs w hJ hl hd hcl => ?_, fun l vs w hJ hl hd hcl => ?_, fun l vs w hJ hl hd hcl => ?_, fun l vs w hJ hl hd hcl => ?_, fun l vs w hJ hl hd hcl => ?_, fun l vs w hJ hl hd hcl => ?_, fun l vs w hJ hl hd hcl => ?_, fun l vs w hJ hl hd hcl => ?_, fun l vs w hJ hl hd hcl => ?_⟩
            · have HJ := Lib.hid hJ
              clear hJ hd hcl
              simp only [Par.GivesV]
              go_simp
              refine (new_any w).mono (fun e w'' h => ?_)
              obtain ⟨he, hs, hb⟩ := h
              exact ⟨_, he, HJ.out.new0 hs hb⟩
            · have z0 := nd_cell hJ.dk.box 0
              have z1 := nd_cell hJ.dk.box 1
              have z2 := nd_cell hJ.dk.box 2
              have z3 := nd_cell hJ.dk.box 3
              have zl := lt_of_heap hJ.dk.box
              have HJ := Lib.hid hJ
              clear hJ hd hcl
              simp only [Par.GivesV]
              go_simp
              all_goals exact HJ.out.pure 1 (by decide) (by decide) (by decide)
            · have HJ := Lib.hid hJ
              obtain ⟨S, s1, s2, s3⟩ := hJ.p0 (hd 0 (by kernel_rfl))
              have d1 : vs 1 = .agg #[.string bT, .slice (some ⟨g1, 0, none⟩) 4 4, .string e0, .slice (some ⟨g2, 0, none⟩) 1 1] := hJ.ev 1 (by decide) (by decide) (hd 1 (by kernel_rfl))
              have hs := s3 hl
              have hadd := add_is (t := tD pa pb pc pd) rfl rfl hJ.dk.rd hs (sm_D pa pb pc pd) HM.out rfl
              clear hJ hd hcl s3
              simp only [Par.GivesV, s1, d1]
              go_simp
              refine hadd.mono (fun e w'' h => ?_)
              obtain ⟨he, _, hc⟩ := h
              exact ⟨_, he, HJ.out.add2 hl hs s2 s1 hc⟩
            · have d2 : vs 2 = .int .i64 3 := hJ.ev 2 (by decide) (by decide) (hd 2 (by kernel_rfl))
              have HJ := Lib.hid hJ
              clear hJ hd hcl
              simp only [Par.GivesV, d2]
              go_simp
              all_goals exact HJ.out.pure 3 (by decide) (by decide) (by decide)
            · have HJ := Lib.hid hJ
              clear hJ hd hcl
              simp only [Par.GivesV]
              go_simp
              all_goals exact HJ.out.pure 4 (by decide) (by decide) (by decide)
            · have d3 : vs 3 = .bool false := hJ.ev 3 (by decide) (by decide) (hd 3 (by kernel_rfl))
              have d4 : vs 4 = .bool false := hJ.ev 4 (by decide) (by decide) (hd 4 (by kernel_rfl))
              have HJ := Lib.hid hJ
              clear hJ hd hcl
              simp only [Par.GivesV, d3, d4]
              go_simp
              all_goals exact HJ.out.pure 5 (by decide) (by decide) (by decide)
            · have d5 : vs 5 = .bool true := hJ.ev 5 (by decide) (by decide) (hd 5 (by kernel_rfl))
              have HJ := Lib.hid hJ
              clear hJ hd hcl
              simp only [Par.GivesV, d5]
              go_simp
              all_goals exact HJ.out.pure 6 (by decide) (by decide) (by decide)
            · have d6 : vs 6 = .bool true := hJ.ev 6 (by decide) (by decide) (hd 6 (by kernel_rfl))
              have HJ := Lib.hid hJ
              clear hJ hd hcl
              simp only [Par.GivesV, d6]
              go_simp
              all_goals exact HJ.out.pure 7 (by decide) (by decide) (by decide)
            · have d7 : vs 7 = .bool false := hJ.ev 7 (by decide) (by decide) (hd 7 (by kernel_rfl))
              have d6 : vs 6 = .bool true := hJ.ev 6 (by decide) (by decide) (hd 6 (by kernel_rfl))
              have HJ := Lib.hid hJ
              clear hJ hd hcl
              simp only [Par.GivesV, d7, d6]
              go_simp
              all_goals exact HJ.out.pure 8 (by decide) (by decide) (by decide)
            · have d8 : vs 8 = .bool false := hJ.ev 8 (by decide) (by decide) (hd 8 (by kernel_rfl))
              have HJ := Lib.hid hJ
              have h2 : l 2 = true := hcl 6 2 (by kernel_rfl) (hcl 8 6 (by kernel_rfl) (hd 8 (by kernel_rfl)))
              clear hJ hd hcl
              simp only [Par.GivesV, d8]
              go_simp
              refine (new_any w).mono (fun e w'' h => ?_)
              obtain ⟨he, hs, hb⟩ := h
              exact ⟨_, he, HJ.out.new9 h2 hs hb⟩
            · have d8 : vs 8 = .bool false := hJ.ev 8 (by decide) (by decide) (hd 8 (by kernel_rfl))
              have z0 := nd_cell hJ.dk.box 0
              have z1 := nd_cell hJ.dk.box 1
              have z2 := nd_cell hJ.dk.box 2
              have z3 := nd_cell hJ.dk.box 3
              have zl := lt_of_heap hJ.dk.box
              have HJ := Lib.hid hJ
              clear hJ hd hcl
              simp only [Par.GivesV, d8]
              go_simp
              all_goals exact HJ.out.pure 10 (by decide) (by decide) (by decide)
            · have d10 : vs 10 = .agg #[.string bT, .slice (some ⟨g1, 0, none⟩) 4 4, .string e0, .slice (some ⟨g2, 0, none⟩) 1 1] := hJ.ev 10 (by decide) (by decide) (hd 10 (by kernel_rfl))
              have d8 : vs 8 = .bool false := hJ.ev 8 (by decide) (by decide) (hd 8 (by kernel_rfl))
              have HJ := Lib.hid hJ
              have h2 : l 2 = true := hcl 6 2 (by kernel_rfl) (hcl 8 6 (by kernel_rfl) (hd 8 (by kernel_rfl)))
              obtain ⟨_, S, s1, s2, s3⟩ := hJ.p9 rfl (hd 9 (by kernel_rfl))
              have hs := s3 hl
              have hadd := add_is (t := tD pa pb pc pd) rfl rfl hJ.dk.rd hs (sm_D pa pb pc pd) HM.out rfl
              clear hJ hd hcl s3
              simp only [Par.GivesV, s1, d8, d10]
              go_simp
              refine hadd.mono (fun e w'' h => ?_)
              obtain ⟨he, _, hc⟩ := h
              exact ⟨_, he, HJ.out.add11 h2 hs s2 s1 hc⟩
            · have d11 : vs 11 = .int .i64 3 := hJ.ev 11 (by decide) (by decide) (hd 11 (by kernel_rfl))
              have d8 : vs 8 = .bool false := hJ.ev 8 (by decide) (by decide) (hd 8 (by kernel_rfl))
              have HJ := Lib.hid hJ
              clear hJ hd hcl
              simp only [Par.GivesV, d11, d8]
              go_simp
              all_goals exact HJ.out.pure 12 (by decide) (by decide) (by decide)
            · have d8 : vs 8 = .bool false := hJ.ev 8 (by decide) (by decide) (hd 8 (by kernel_rfl))
              have d12 : vs 12 = .bool true := hJ.ev 12 (by decide) (by decide) (hd 12 (by kernel_rfl))
              have d6 : vs 6 = .bool true := hJ.ev 6 (by decide) (by decide) (hd 6 (by kernel_rfl))
              have HJ := Lib.hid hJ
              clear hJ hd hcl
              simp only [Par.GivesV, d8, d12, d6]
              go_simp
              all_goals exact HJ.out.pure 13 (by decide) (by decide) (by decide)
            · have d6 : vs 6 = .bool true := hJ.ev 6 (by decide) (by decide) (hd 6 (by kernel_rfl))
              have d13 : vs 13 = .bool true := hJ.ev 13 (by decide) (by decide) (hd 13 (by kernel_rfl))
              have HJ := Lib.hid hJ
              clear hJ hd hcl
              simp only [Par.GivesV, d6, d13]
              go_simp
              all_goals exact HJ.out.pure 14 (by decide) (by decide) (by decide)
          case hTAY =>
            intro l vs w' hl hJ
            simp only [List.drop_succ_cons, List.drop_zero]
            have d14 : vs 14 = .bool true := hJ.ev 14 (by decide) (by decide) (hl 14 (by decide))
            simp only [d14]
            have HJ := Lib.hid hJ.dk.below
            clear hJ
            go_wp2_with fail
            go_ret
            exact ⟨rfl, HJ.out⟩
        · have HM : Hid (mayP [] (tD pa pb pc pd) = 0) := Lib.hid (by rw [HMA.out, hv]; rfl)
          clear hv
          refine Par.wp_region_par3 15 (Jd W PB TB g1 g2 pa pb pc pd (fun j => [undef, .agg #[.string bT, .slice (some ⟨g1, 0, none⟩) 4 4, .string e0, .slice (some ⟨g2, 0, none⟩) 1 1], .int .i64 0, .bool true, .bool true, .bool true, .bool true, .bool true, .bool true, undef, undef, undef, undef, .bool true, .bool true].getD j undef) false) ?AAX ?hmAX ?hBAX ?hAAX ?hJAX ?hopAX ?hTAX
          case hmAX => kernel_rfl
          case hBAX => kernel_rfl
          case hAAX =>
            intro vs
            simp only [Par.putA, Par.dstAt, Act.put, List.getElem?_toArray, List.getElem?_cons_zero, List.getElem?_cons_succ, Option.bind_some, List.setIfInBounds_toArray, List.set_cons_zero, List.set_cons_succ]
            rfl
          case hJAX => exact fun vs => ⟨HD.out.on (below_drew _), fun _ _ _ h => (by cases h), fun h => (by cases h), fun _ h => (by cases h)⟩
          case hopAX =>
            simp only [List.take_succ_cons, List.take_zero, Par.GiveAllJ, and_true]
            refine ⟨fun l vs w hJ hl hd hcl => ?_, fun l vs w hJ hl hd hcl => ?_, fun l vs w hJ hl hd hcl => ?_, fun l vs w hJ hl hd hcl => ?_, fun l vs w hJ hl hd hcl => ?_, fun l vs w hJ hl hd hcl => ?_, fun l vs w hJ hl hd hcl => ?_, fun l vs w hJ hl hd hcl => ?_, fun l vs w hJ hl hd hcl => ?_, fun l vs w hJ hl hd hcl => ?_, fun l vs w hJ hl hd hcl => ?_, fun l vs w hJ hl hd hcl => ?_, fun l vs w hJ hl hd hcl => ?_, fun l vs w hJ hl hd hcl => ?_, fun l vs w hJ hl hd hcl => ?_⟩
            · have HJ := Lib.hid hJ
              clear hJ hd hcl
              simp only [Par.GivesV]
              go_simp
              refine (new_any w).mono (fun e w'' h => ?_)
              obtain ⟨he, hs, hb⟩ := h
              exact ⟨_, he, HJ.out.new0 hs hb⟩
            · have z0 := nd_cell hJ.dk.box 0
              have z1 := nd_cell hJ.dk.box 1
              have z2 := nd_cell hJ.dk.box 2
              have z3 := nd_cell hJ.dk.box 3
              have zl := lt_of_heap hJ.dk.box
              have HJ := Lib.hid hJ
              clear hJ hd hcl
              simp only [Par.GivesV]
              go_simp
              all_goals exact HJ.out.pure 1 (by decide) (by decide) (by decide)
            · have HJ := Lib.hid hJ
              obtain ⟨S, s1, s2, s3⟩ := hJ.p0 (hd 0 (by kernel_rfl))
              have d1 : vs 1 = .agg #[.string bT, .slice (some ⟨g1, 0, none⟩) 4 4, .string e0, .slice (some ⟨g2, 0, none⟩) 1 1] := hJ.ev 1 (by decide) (by decide) (hd 1 (by kernel_rfl))
              have hs := s3 hl
              have hadd := add_is (t := tD pa pb pc pd) rfl rfl hJ.dk.rd hs (sm_D pa pb pc pd) HM.out rfl
              clear hJ hd hcl s3
              simp only [Par.GivesV, s1, d1]
              go_simp
              refine hadd.mono (fun e w'' h => ?_)
              obtain ⟨he, _, hc⟩ := h
              exact ⟨_, he, HJ.out.add2 hl hs s2 s1 hc⟩
            · have d2 : vs 2 = .int .i64 0 := hJ.ev 2 (by decide) (by decide) (hd 2 (by kernel_rfl))
              have HJ := Lib.hid hJ
              clear hJ hd hcl
              simp only [Par.GivesV, d2]
              go_simp
              all_goals exact HJ.out.pure 3 (by decide) (by decide) (by decide)
            · have HJ := Lib.hid hJ
              clear hJ hd hcl
              simp only [Par.GivesV]
              go_simp
              all_goals exact HJ.out.pure 4 (by decide) (by decide) (by decide)
            · have d3 : vs 3 = .bool true := hJ.ev 3 (by decide) (by decide) (hd 3 (by kernel_rfl))
              have d4 : vs 4 = .bool true := hJ.ev 4 (by decide) (by decide) (hd 4 (by kernel_rfl))
              have HJ := Lib.hid hJ
              clear hJ hd hcl
              simp only [Par.GivesV, d3, d4]
              go_simp
              all_goals exact HJ.out.pure 5 (by decide) (by decide) (by decide)
            · have d5 : vs 5 = .bool true := hJ.ev 5 (by decide) (by decide) (hd 5 (by kernel_rfl))
              have HJ := Lib.hid hJ
              clear hJ hd hcl
              simp only [Par.GivesV, d5]
              go_simp
              all_goals exact HJ.out.pure 6 (by decide) (by decide) (by decide)
            · have d6 : vs 6 = .bool true := hJ.ev 6 (by decide) (by decide) (hd 6 (by kernel_rfl))
              have HJ := Lib.hid hJ
              clear hJ hd hcl
              simp only [Par.GivesV, d6]
              go_simp
              all_goals exact HJ.out.pure 7 (by decide) (by decide) (by decide)
            · have d7 : vs 7 = .bool true := hJ.ev 7 (by decide) (by decide) (hd 7 (by kernel_rfl))
              have d6 : vs 6 = .bool true := hJ.ev 6 (by decide) (by decide) (hd 6 (by kernel_rfl))
              have HJ := Lib.hid hJ
              clear hJ hd hcl
              simp only [Par.GivesV, d7, d6]
              go_simp
              all_goals exact HJ.out.pure 8 (by decide) (by decide) (by decide)
            · have d8 : vs 8 = .bool true := hJ.ev 8 (by decide) (by decide) (hd 8 (by kernel_rfl))
              have HJ := Lib.hid hJ
              clear hJ hd hcl
              simp only [Par.GivesV, d8]
              go_simp
              all_goals exact HJ.out.pure 9 (by decide) (by decide) (by decide)
            · have d8 : vs 8 = .bool true := hJ.ev 8 (by decide) (by decide) (hd 8 (by kernel_rfl))
              have HJ := Lib.hid hJ
              clear hJ hd hcl
              simp only [Par.GivesV, d8]
              go_simp
              all_goals exact HJ.out.pure 10 (by decide) (by decide) (by decide)
            · have d8 : vs 8 = .bool true := hJ.ev 8 (by decide) (by decide) (hd 8 (by kernel_rfl))
              have HJ := Lib.hid hJ
              clear hJ hd hcl
              simp only [Par.GivesV, d8]
              go_simp
              all_goals exact HJ.out.pure 11 (by decide) (by decide) (by decide)
            · have d8 : vs 8 = .bool true := hJ.ev 8 (by decide) (by decide) (hd 8 (by kernel_rfl))
              have HJ := Lib.hid hJ
              clear hJ hd hcl
              simp only [Par.GivesV, d8]
              go_simp
              all_goals exact HJ.out.pure 12 (by decide) (by decide) (by decide)
            · have d8 : vs 8 = .bool true := hJ.ev 8 (by decide) (by decide) (hd 8 (by kernel_rfl))
              have d6 : vs 6 = .bool true := hJ.ev 6 (by decide) (by decide) (hd 6 (by kernel_rfl))
              have d12 : vs 12 = undef := hJ.ev 12 (by decide) (by decide) (hd 12 (by kernel_rfl))
              have HJ := Lib.hid hJ
              clear hJ hd hcl
              simp only [Par.GivesV, d8, d6, d12]
              go_simp
              all_goals exact HJ.out.pure 13 (by decide) (by decide) (by decide)
            · have d6 : vs 6 = .bool true := hJ.ev 6 (by decide) (by decide) (hd 6 (by kernel_rfl))
              have d13 : vs 13 = .bool true := hJ.ev 13 (by decide) (by decide) (hd 13 (by kernel_rfl))
              have HJ := Lib.hid hJ
              clear hJ hd hcl
              simp only [Par.GivesV, d6, d13]
              go_simp
              all_goals exact HJ.out.pure 14 (by decide) (by decide) (by decide)
          case hTAX =>
            intro l vs w' hl hJ
            simp only [List.drop_succ_cons, List.drop_zero]
            have d14 : vs 14 = .bool true := hJ.ev 14 (by decide) (by decide) (hl 14 (by decide))
            simp only [d14]
            have HJ := Lib.hid hJ.dk.below
            clear hJ
            go_wp2_with fail
            go_ret
            exact ⟨rfl, HJ.out⟩
end Go.Proofs.Ytbhcmmkobadmnaa
