/- begun. A row of numbers, moved up; a number put among others. The reference's SetOf. -/
import Derived.Test.YtffpmmphpdkkbaaGreatMBL
import Derived.RangeFuncLeaves
import Derived.ControlIn
import Derived.Test.YtffpmmphpdkkbaaGreatMBP1
import Derived.Laws.CopyOwn
import Derived.Sort.BigQuietIn
namespace Go.Proofs.YtffpmmphpdkkbaaGreat
open Go Go.RowKit Go.Shelf Go.Proofs
attribute [local go_sem] Oper.semAt_some
attribute [local go_sem] eql51n eql51f wide_fn wide_depth

/-- A range over an iterator that lays its values straight into the frame. -/
theorem wpIn_rangeFunc_skip {α : Type} {n : Nat} {P : Program} {g : Operand} {ps : Array Tmp} {body : Code} {Q : Exit → Act → World → Prop} {a : Act} {w : World}
    {sv : Value} (hg : a.eval g = sv) {encs : α → Array Value} {xs : List α} {M Mm : Nat → Prop} {Qi : Nat → World → Prop} (hgv : Gives P sv encs xs M Mm Qi) (hps : ∀ x, (encs x).size = ps.size)
    (I : Nat → (Nat → Prop) → World → Prop) (Ix : Code → Nat → (Nat → Prop) → World → Prop) (hI : ∀ k, Loc (I k)) (hIx : ∀ c k, Loc (Ix c k))
    (S : Nat → Prop) (hS : InW S w) (hM : InW M w) (hSM : ∀ b, S b → ¬ M b) (hQ : Qi 0 w) (h0 : I 0 S w)
    (hbody : ∀ (l k : Nat) (hk : k < xs.length) S1 W1, InW S1 W1 → Chg (fun b => S b ∨ Mm b) w W1 → I k S1 W1 →
      body.wpIn (Fence.wide.inRound l) 0 P (sepPost I Ix (k + 1) S1 W1) { tmps := (ps.zip (encs xs[k])).foldl (fun t (p, v) => t.setIfInBounds p v) a.tmps, defers := [] } W1)
    (hdone : ∀ S' W', Grows S S' w → InW S' W' → Chg (fun b => S b ∨ Mm b) w W' → I xs.length S' W' → Qi xs.length W' → W'.heap[w.heap.size]? = some (.deferred (some [])) → ¬ S' w.heap.size →
      Q .normal { a with defers := markAt w.heap.size :: a.defers } W')
    (hstop : ∀ c k S' W', 0 < k → k ≤ xs.length → Grows S S' w → InW S' W' → Chg (fun b => S b ∨ Mm b) w W' → Ix c k S' W' → Qi k W' → W'.heap[w.heap.size]? = some (.deferred (some [])) → ¬ S' w.heap.size →
      c.wpIn Fence.wide n P Q { a with defers := markAt w.heap.size :: a.defers } W') :
    (Code.rangeFunc g ps .skip body).wpIn Fence.wide n P Q a w :=
  wpIn_rangeFunc_sep hg hgv hps I Ix hI hIx S hS hM hSM hQ h0 (fun x => { tmps := (ps.zip (encs x)).foldl (fun t (p, v) => t.setIfInBounds p v) a.tmps, defers := [] }) (fun _ _ _ _ hK => wpIn_skip hK) hbody hdone hstop

theorem Mv.slc {W : World} {v : Value} {l : List R2} (h : Mv W v l) : ∃ p n c, v = .slice p n c := by
  obtain ⟨p, c, e, _⟩ := h.slice
  exact ⟨p, _, c, e⟩
/-- Numbers in a block of their own. -/
theorem rd_new (W : World) (xs : List Int) (cs : Array Value) (hcs : cs = (xs.map iv).toArray) : Rd (W.alloc (.cells cs 3)) (some ⟨W.heap.size, 0, none⟩) xs := fun j hj => by
  refine ⟨W.heap.size, 0, rfl, by simp, ?_⟩
  rw [Nat.zero_add, nd_cell (heap_alloc_new W (.cells cs 3)), hcs]
  simp [hj]
/-- Which elements a set has, by its list. -/
theorem els_of {l : List R2} {P : Int → Bool} {xs : List Int} (hl : Nrm l) (hP : Is l P) (hs : xs.Pairwise (· < ·)) (h : ∀ x, P x = true ↔ x ∈ xs) : els l = xs :=
  srt_ext (els_srt hl) hs (fun x => by rw [mem_els, hP x, h x])

/-- begun's Map. -/
abbrev L3 : List R2 := [(1, 3), (5, 6)]
theorem l3_nrm : Nrm L3 := ⟨by simp [L3], fun r hr => by
  simp [L3] at hr
  rcases hr with rfl | rfl <;> decide⟩
def p3 (x : Int) : Bool := decide (x = 1 ∨ x = 2 ∨ x = 5)
theorem l3_is : Is L3 p3 := fun x => by
  unfold L3 p3
  rw [mem_cons, mem_one, decide_eq_true_eq]
  show (1 ≤ x ∧ x < 3) ∨ (5 ≤ x ∧ x < 6) ↔ _
  omega
theorem l3_els : els L3 = [1, 2, 5] := by decide
theorem l3_of {l : List R2} (hl : Nrm l) (h : Is l (ofP [5, 1, 2, -1, 2])) : l = L3 := runs_ext hl l3_nrm (fun x => by
  rw [h x, l3_is x]
  unfold ofP p3 inB
  simp
  omega)
/-- Where begun stands: the Map, its variable, the row of its runs; all below W as it was. -/
structure Bg (W : World) (v : Value) (mb : Nat) (v2 : Value) (x : World) : Prop where
  mv : Mv x v L3
  kb : x.heap[mb]? = some (.cells #[v] 70)
  rr : Rp x 0 v2 L3
  bel : Below W.heap.size W x
theorem Bg.later {W x y : World} {v v2 : Value} {mb : Nat} (h : Bg W v mb v2 x) (hb : Below x.heap.size x y) : Bg W v mb v2 y :=
  ⟨h.mv.later hb, heap_below hb h.kb, HRow.later h.rr hb, below_on h.bel hb⟩
theorem Bg.cell {W x : World} {v v2 : Value} {mb : Nat} (h : Bg W v mb v2 x) : x.cell? ⟨mb, 0, none⟩ = some v ∧ mb < x.heap.size := ⟨nd_cell h.kb 0, lt_of_heap h.kb⟩
theorem has_r {x : World} {v : Value} {l : List R2} (hl : Nrm l) (hv : Mv x v l) {P : Int → Bool} (hP : Is l P) (i : Int) (b : Bool) (h : P i = b) : Calls Tryz.prog 75 #[.agg #[v], (Value.int .i64 (i))] x fun e w' => e = .returned (.bool b) ∧ Below x.heap.size x w' :=
  has_any hl hv i b (by rw [hP i, h])
theorem count_r {x : World} {v : Value} {l : List R2} (hl : Nrm l) (hv : Mv x v l) {P : Int → Bool} (hP : Is l P) (xs : List Int) (hs : xs.Pairwise (· < ·)) (h : ∀ y, P y = true ↔ y ∈ xs) : Calls Tryz.prog 29 #[.agg #[v]] x fun e w' => e = .returned (Value.int .i64 ((xs.length : Int))) ∧ Below x.heap.size x w' := by
  have := count_any hl hv
  rw [els_of hl hP hs h] at this
  exact this

/-- Behind the range: the Map, n, the runs' row, the mark. -/
structure Bh (W : World) (v : Value) (mb nb g D : Nat) (x : World) : Prop where
  mv : Mv x v L3
  kb : x.heap[mb]? = some (.cells #[v] 70)
  kn : x.cell? ⟨nb, 0, none⟩ = some (Value.int .i64 (3))
  r0 : x.cell? ⟨g, 0, none⟩ = some (Value.int .i64 (1))
  r1 : x.cell? ⟨g, 1, none⟩ = some (Value.int .i64 (3))
  kd : x.heap[D]? = some (.deferred (some []))
  bel : Below W.heap.size W x
theorem Bh.later {W x y : World} {v : Value} {mb nb g D : Nat} (h : Bh W v mb nb g D x) (hb : Below x.heap.size x y) : Bh W v mb nb g D y :=
  ⟨h.mv.later hb, heap_below hb h.kb, bel_cell hb h.kn, bel_cell hb h.r0, bel_cell hb h.r1, heap_below hb h.kd, below_on h.bel hb⟩
theorem Bh.sees {W x : World} {v : Value} {mb nb g D : Nat} (h : Bh W v mb nb g D x) : x.cell? ⟨mb, 0, none⟩ = some v ∧ x.cell? ⟨nb, 0, none⟩ = some (Value.int .i64 (3)) ∧ x.cell? ⟨g, 0, none⟩ = some (Value.int .i64 (1)) ∧ x.cell? ⟨g, 1, none⟩ = some (Value.int .i64 (3)) := ⟨nd_cell h.kb 0, h.kn, h.r0, h.r1⟩
theorem q_and (y : Int) : (p3 y && spanP 2 9 y) = true ↔ y ∈ [2, 5] := by simp [p3, spanP]; omega
theorem q_not (y : Int) : notP p3 4 y = true ↔ y ∈ [0, 3] := by simp [p3, notP]; omega
theorem q_out (y : Int) : outP p3 (ofP [1]) y = true ↔ y ∈ [2, 5] := by simp [p3, outP, ofP, inB]; omega
theorem q_eq (y : Int) : p3 y = (ofP [5] y || spanP 1 3 y) := by rw [Bool.eq_iff_iff]; simp [p3, ofP, inB, spanP]; omega

end Go.Proofs.YtffpmmphpdkkbaaGreat
namespace Go.Proofs.YtffpmmphpdkkbaaGreat
open Go Go.RowKit Go.Shelf Go.Proofs

section
variable {P : Program}
/-- copy of elements of any size: the row behind it. -/
theorem run_copy_sized (w : World) (dT sT ty elem : TypeId) (size g o dLen dCap : Nat) (a : Addr) (sLen sCap : Nat) (cur : Array Value) (t : TypeId) (cs : List Value)
    (hu : P.underlying dT = some (.slice elem)) (hs : (P.info? elem).map (·.size) = some size)
    (hg : w.heap[g]? = some (.cells cur t (0, 0))) (hn : cs.length = Nat.min sLen dLen * size)
    (hsrc : ∀ j v, cs[j]? = some v → w.cell? (a.add j) = some v) (hfit : o + cs.length ≤ cur.size) (h1 : ∀ v ∈ cs, v.oneCell' = true) :
    (Builtin.copy_ #[dT, sT] ty #[.slice (some ⟨g, o, none⟩) dLen dCap, .slice (some a) sLen sCap]).run P w =
      .ok (goInt (Nat.min sLen dLen)) (w.setRow g (cur.toList.take o ++ cs ++ cur.toList.drop (o + cs.length)).toArray) := by
  have hl := run_loadCells_list (P := P) w a cs hsrc
  have hst := run_storeCells_at P g o t cs 0 cur w hg (by simpa using hfit) h1
  cases hq : P.info? elem with
  | none => simp [hq] at hs
  | some i =>
    have hi : i.size = size := by simpa [hq] using hs
    simp [Builtin.copy_, run_underlying hu, Builtin.lenOf, Builtin.firstCells, sizeOf, typeInfo, hq, hi, ← hn, hl, hst]
/-- copy, as one step of a region that draws. -/
theorem step_copy_sized {ops : Array Oper} {o : Oper} {a : Act} {w : World} {K : Act → World → Prop} {Q : Exit → Act → World → Prop} {E : Prop} (hgd : o.guard = none) (d s : Operand) (dT sT : TypeId)
    (ho : o.op = .call { callee := .builtin .copy, args := #[d, s], argTypes := #[dT, sT] }) (elem : TypeId) (size : Nat) (hu : P.underlying dT = some (.slice elem)) (hsz : (P.info? elem).map (·.size) = some size)
    (dLen dCap sLen sCap : Nat) (g off : Nat) (ad : Addr) (hd : a.eval d = .slice (some ⟨g, off, none⟩) dLen dCap) (hs : a.eval s = .slice (some ad) sLen sCap)
    (cur : Array Value) (t : TypeId) (hg : w.heap[g]? = some (.cells cur t (0, 0))) (cs : List Value) (hn : cs.length = Nat.min sLen dLen * size)
    (hsrc : ∀ j v, cs[j]? = some v → w.cell? (ad.add j) = some v) (hfit : off + cs.length ≤ cur.size) (h1 : ∀ v ∈ cs, v.oneCell' = true)
    (h : K (a.put o.dst (goInt (Nat.min sLen dLen))) (w.setRow g (cur.toList.take off ++ cs ++ cur.toList.drop (off + cs.length)).toArray)) :
    if Region.wanted o (yielded ops a.tmps) = true then Oper.wp P o a w K Q else E := by
  have hw : Region.wanted o (yielded ops a.tmps) = true := by simp [Region.wanted, hgd]
  rw [if_pos hw]
  have hrun := run_copy_sized (P := P) w dT sT o.type elem size g off dLen dCap ad sLen sCap cur t cs hu hsz hg hn hsrc hfit h1
  unfold Oper.wp
  simp only [execOp, ho, resolve, invoke, builtin, Sem.run_bind, Sem.run_pure, Result.andThen_ok, List.map_toArray, List.map_cons, List.map_nil, hd, hs, hrun]
  exact h
end
theorem size3 : (Tryz.prog.info? 3).map (·.size) = some 1 := by kernel_rfl
theorem row_moved {w : World} {base n g cap a : Nat} {xs : List Value} {z : Value} (hn : xs.length = n) (ha : a ≤ n) (cur : Array Value) (h : HRow w base 3 1 (.slice (some ⟨g, 0, none⟩) (n + 1) cap) (n + 1) (xs ++ [z])) (hg : w.heap[g]? = some (.cells cur 3 (0, 0))) (x : Value) :
    ∃ M : List Value, M.length = n + 1 ∧ M.set a x = xs.take a ++ x :: xs.drop a ∧
    HRow (w.setRow g (cur.toList.take (a + 1) ++ xs.drop a ++ cur.toList.drop (a + 1 + (xs.drop a).length)).toArray) base 3 1 (.slice (some ⟨g, 0, none⟩) (n + 1) cap) (n + 1) M := by
  have hm : (xs.drop a).length = n - a := by rw [List.length_drop, hn]
  have hs := h.spliced cur hg (a + 1) (xs.drop a) (by rw [hm]; omega)
  refine ⟨(xs ++ [z]).take (a + 1) ++ xs.drop a, by simp; omega, ?_, ?_⟩
  · have e : (xs ++ [z]).take (a + 1) = (xs ++ [z]).take a ++ [(xs ++ [z])[a]'(by simp; omega)] := List.take_succ_eq_append_getElem _
    rw [e, List.take_append_of_le_length (by omega)]
    have hl : (xs.take a).length = a := by simp; omega
    generalize (xs ++ [z])[a]'_ = y
    rw [List.append_assoc, List.set_append_right _ _ (by omega), hl]
    simp
  · have hz : (xs ++ [z]).drop (a + 1 + (xs.drop a).length) = [] := List.drop_eq_nil_of_le (by rw [hm]; simp; omega)
    rw [hz, List.append_nil] at hs
    exact hs
theorem row_src {w : World} {base n g cap : Nat} {xs : List Value} {z : Value} (h : HRow w base 3 1 (.slice (some ⟨g, 0, none⟩) (n + 1) cap) (n + 1) (xs ++ [z])) (a : Nat) :
    ∀ j u, (xs.drop a)[j]? = some u → w.cell? ((⟨g, a, none⟩ : Addr).add j) = some u := fun j u hj => by
  rw [Addr.add_lit]
  refine h.cell ?_
  rw [List.getElem?_drop] at hj
  rw [List.getElem?_append_left (List.getElem?_eq_some_iff.1 hj).1]
  exact hj
theorem grown_setRow (w : World) (g : Nat) (cs : Array Value) : w.grownBy (w.drew.setRow g cs) (some g) :=
  ⟨rfl, rfl, rfl, by simp, fun k _ hk => setRow_other w.drew g k cs (fun e => hk (by rw [e]))⟩
theorem grown_below {B : Nat} {w w' : World} {o : Option Nat} (h : w.grownBy w' o) (ho : ∀ q, o = some q → B ≤ q) (hB : B ≤ w.heap.size) : Below B w w' :=
  ⟨h.os, h.tape, h.output, h.size, fun b hb => h.block b (by omega) (fun e => by have := ho b e.symm; omega)⟩
/-- A new word among the others. -/
theorem srt_put {out : List Int} (hs : out.Pairwise (· < ·)) {x : Int} {a : Nat} (ha : a ≤ out.length) (hl : ∀ h : 0 < a, (out[a - 1]'(by omega)) < x) (hr : ∀ j (h : j < out.length), a ≤ j → x < out[j]) :
    (out.take a ++ x :: out.drop a).Pairwise (· < ·) := by
  rw [List.pairwise_append, List.pairwise_cons]
  have hs' := hs
  rw [← List.take_append_drop a out, List.pairwise_append] at hs'
  have hlt : ∀ y ∈ out.take a, y < x := by
    intro y hy
    obtain ⟨j, hj, e⟩ := List.getElem_of_mem hy
    rw [List.length_take] at hj
    rw [List.getElem_take] at e
    have h0 := hl (by omega)
    by_cases hja : j = a - 1
    · subst hja; rw [← e]; exact h0
    · have := List.pairwise_iff_getElem.1 hs j (a - 1) (by omega) (by omega) (by omega)
      rw [← e]; omega
  have hrt : ∀ y ∈ out.drop a, x < y := by
    intro y hy
    obtain ⟨j, hj, e⟩ := List.getElem_of_mem hy
    rw [List.length_drop] at hj
    rw [List.getElem_drop] at e
    rw [← e]
    exact hr (a + j) (by omega) (by omega)
  refine ⟨hs'.1, ⟨hrt, hs'.2.1⟩, fun y hy z hz => ?_⟩
  rcases List.mem_cons.1 hz with rfl | hz
  · exact hlt y hy
  · exact hs'.2.2 y hy z hz
theorem mem_put {out : List Int} {x s : Int} {a : Nat} : s ∈ out.take a ++ x :: out.drop a ↔ s = x ∨ s ∈ out := by
  rw [List.mem_append, List.mem_cons]
  conv => rhs; rw [← List.take_append_drop a out, List.mem_append]
  constructor
  · rintro (h | h | h)
    · exact .inr (.inl h)
    · exact .inl h
    · exact .inr (.inr h)
  · rintro (h | h | h)
    · exact .inr (.inl h)
    · exact .inl h
    · exact .inr (.inr h)
end Go.Proofs.YtffpmmphpdkkbaaGreat
namespace Go.Proofs.YtffpmmphpdkkbaaGreat
open Go Go.RowKit Go.Shelf Go.Proofs

/-- Those of xs that may be in a set, in order, each once, in a row of the call's own. -/
def SetR (xs : List Int) (W : World) (e : Ending) (w' : World) : Prop := ∃ (out : List Int) (v : Value), out.Pairwise (· < ·) ∧ (∀ s, s ∈ out ↔ s ∈ xs ∧ inB s = true) ∧ out.length ≤ xs.length ∧ e = .returned v ∧ HRow w' W.heap.size 3 1 v out.length (out.map iv) ∧ Below W.heap.size W w'
theorem inB_no {x : Int} (h : x < 0 ∨ 65535 < x) : inB x = false := decide_eq_false (by omega)
theorem inB_yes {x : Int} (h : 0 ≤ x) (h1 : x ≤ 65535) : inB x = true := decide_eq_true (by omega)

set_option maxRecDepth 100000 in
set_option maxHeartbeats 4000000 in
theorem setof_any (xs : List Int) (p : Option Addr) (n cap : Nat) (W : World) (hn : xs.length = n) (h1000 : n ≤ 1000) (hP : Rd W p xs) :
    Calls Tryz.prog 50 #[.slice p n cap] W (SetR xs W) := by
  obtain ⟨B, hB⟩ : ∃ B, W.heap.size = B := ⟨_, rfl⟩
  have HW : Below B W W := .refl _ W
  have HN := Lib.hid hn
  go_enter Tryz.func50, Tryz.ntmps50
  go_wp2_with fail
  go_loopg [3, 4] 1001 (fun gh ov kv w => ∃ (i : Nat) (out : List Int), i ≤ n ∧ 1001 ≤ i + gh ∧ kv = .int .i64 (i : Int) ∧ out.Pairwise (· < ·) ∧ (∀ s, s ∈ out ↔ s ∈ xs.take i ∧ inB s = true) ∧ out.length ≤ i ∧ HRow w B 3 1 ov out.length (out.map iv) ∧ Below B W w)
  case atStart => exact ⟨0, [], Nat.zero_le _, Nat.le_refl _, rfl, List.Pairwise.nil, fun s => by simp, Nat.le_refl _, HRow.nil, HW⟩
  case round =>
    obtain ⟨i, out, hin, hig, rfl, hso, hmem, hol, hR, hbel⟩ := hrel
    obtain ⟨ol, hoe⟩ : ∃ ol, out.length = ol := ⟨_, rfl⟩
    rw [hoe] at hR hol
    obtain ⟨po, co, rfl, hco, _⟩ := hR.isslice
    have hPo : Rd wr po out := Ro.rd (base := B) (cap := co) (by unfold Ro; rw [hoe]; exact hR)
    by_cases hlt : i < n
    · obtain ⟨b, off, rfl, hbW, hcW⟩ := hP i (by omega)
      obtain ⟨x, hx⟩ : ∃ x : Int, xs[i]'(by omega) = x := ⟨xs[i]'(by omega), rfl⟩
      rw [hx] at hcW
      have hcq : ∀ q, (wr.drewN q).cell? ⟨b, off + i, none⟩ = some (Value.int .i64 (x)) := fun q => (World.cell?_of_block (w := W) (hbel.block b (by omega))).trans hcW
      have hc0 : wr.cell? ⟨b, off + i, none⟩ = some (Value.int .i64 (x)) := hcq 0
      have htk : xs.take (i + 1) = xs.take i ++ [x] := by rw [List.take_succ_eq_append_getElem (by omega), hx]
      by_cases hxb : x < 0 ∨ 65535 < x
      · have hno := inB_no hxb
        have HI := Lib.hid (And.intro htk (And.intro hmem (And.intro hno hoe)))
        clear hcq htk hmem hno hoe hP hPo hx hcW hB
        rcases hxb with hxb | hxb
        · go_wp2_with fail
          go_roundg (1000 - i)
          case measure => omega
          case rel => exact ⟨i + 1, out, by omega, by omega, by simp, hso, fun s => by
            rw [HI.out.1, List.mem_append, List.mem_singleton, HI.out.2.1 s]
            exact ⟨fun h => ⟨.inl h.1, h.2⟩, fun h => ⟨h.1.resolve_right (fun e => by rw [e, HI.out.2.2.1] at h; exact absurd h.2 (by decide)), h.2⟩⟩, by rw [HI.out.2.2.2]; omega, by rw [HI.out.2.2.2]; exact hR, hbel⟩
        · have hx0 : ¬ x < 0 := by omega
          go_wp2_with fail
          go_roundg (1000 - i)
          case measure => omega
          case rel => exact ⟨i + 1, out, by omega, by omega, by simp, hso, fun s => by
            rw [HI.out.1, List.mem_append, List.mem_singleton, HI.out.2.1 s]
            exact ⟨fun h => ⟨.inl h.1, h.2⟩, fun h => ⟨h.1.resolve_right (fun e => by rw [e, HI.out.2.2.1] at h; exact absurd h.2 (by decide)), h.2⟩⟩, by rw [HI.out.2.2.2]; omega, by rw [HI.out.2.2.2]; exact hR, hbel⟩
      have hx0 : ¬ x < 0 := by omega
      have hx1 : ¬ 65535 < x := by omega
      have hyes := inB_yes (x := x) (by omega) (by omega)
      have hmx : ∀ s, s ∈ xs.take (i + 1) ∧ inB s = true ↔ s = x ∨ s ∈ out := fun s => by
        rw [htk, List.mem_append, List.mem_singleton, hmem]
        constructor
        · rintro ⟨h1 | h1, h2⟩
          · exact .inr ⟨h1, h2⟩
          · exact .inl h1
        · rintro (h1 | ⟨h1, h2⟩)
          · exact ⟨.inr h1, by rw [h1]; exact hyes⟩
          · exact ⟨.inl h1, h2⟩
      have HB := Lib.hid (And.intro hB (And.intro hoe (And.intro hmem (And.intro hmx hx))))
      have hBs : B ≤ wr.heap.size := by have := hbel.size; omega
      clear hx hcW hB hoe hmem hmx hP htk hyes hxb
      go_upto_block 2 with fail
      go_cut [5] from 26 to 41 (fun av wx => ∃ a q : Nat, a ≤ ol ∧ av = .int .i64 (a : Int) ∧ (∀ j (h : j < out.length), a ≤ j → x < out[j]) ∧ (∀ h : 0 < a ∧ a ≤ out.length, ¬ x < (out[a - 1]'(by omega))) ∧ wx = wr.drewN q)
      case first =>
        have hoe := HB.out.2.1
        go_wp2_with fail
        go_loopg [5] (ol + 1) (fun kk av w => ∃ a q : Nat, a ≤ ol ∧ a + 1 ≤ kk ∧ av = .int .i64 (a : Int) ∧ (∀ j (h : j < out.length), a ≤ j → x < out[j]) ∧ w = wr.drewN q)
        case atStart => exact ⟨ol, 0, Nat.le_refl _, Nat.le_refl _, rfl, fun j h hj => by omega, rfl⟩
        case round =>
          obtain ⟨a, q, hal, hak, rfl, hhi, rfl⟩ := hrel
          by_cases ha0 : 0 < a
          · obtain ⟨a', rfl⟩ : ∃ a', a = a' + 1 := ⟨a - 1, by omega⟩
            obtain ⟨bo, oo, rfl, hbo, hco'⟩ := hPo a' (by omega)
            obtain ⟨y, hy⟩ : ∃ y : Int, out[a']'(by omega) = y := ⟨out[a']'(by omega), rfl⟩
            rw [hy] at hco'
            have hyq : ∀ q, (wr.drewN q).cell? ⟨bo, oo + a', none⟩ = some (Value.int .i64 (y)) := fun q => hco'
            have hd0 : decide ((0 : Int) < ((a' + 1 : Nat) : Int)) = true := decide_eq_true (by omega)
            have hwa : IntKind.i64.wrap (a' : Int) = (a' : Int) := by rw [IntKind.wrap_i64]; omega
            have hb2 : (a' : Int) < (ol : Int) := by omega
            have hb3 : (i : Int) < (n : Int) := by omega
            by_cases hxy : x < y
            · have e1 : decide (x < y) = true := decide_eq_true hxy
              have HY := Lib.hid hy
              clear hy
              go_wp2_with fail
              go_quiet (fail)
              go_wp2_with fail
              go_roundg (a' + 1)
              case measure => omega
              case rel => exact ⟨a', q + nq, by omega, by omega, rfl, fun j h hj => by
                by_cases e : j = a'
                · subst e; rw [HY.out]; exact hxy
                · exact hhi j h (by omega), by first | rfl | exact World.drewN_drewN _ _ _⟩
            · have hge : ∀ h : 0 < a' + 1 ∧ a' + 1 ≤ out.length, ¬ x < (out[a' + 1 - 1]'(by omega)) := fun h => by simp only [Nat.add_sub_cancel]; rw [hy]; exact hxy
              have HGE := Lib.hid hge
              have e1 : decide (x < y) = false := decide_eq_false hxy
              clear hge hy
              go_wp2_with fail
              go_quiet (fail)
              go_wp2_with fail
              go_meet
              exact ⟨a' + 1, q + nq, by omega, rfl, hhi, HGE.out, by first | rfl | exact World.drewN_drewN _ _ _⟩
          · obtain rfl : a = 0 := by omega
            go_wp2_with fail
            go_quiet (fail)
            go_wp2_with fail
            go_meet
            exact ⟨0, q + nq, by omega, rfl, hhi, fun h => absurd h.1 (by omega), by first | rfl | exact World.drewN_drewN _ _ _⟩
      case rest =>
        obtain ⟨a, q, hal, rfl, hhi, hge, rfl⟩ := hcut
        by_cases hdup : ∃ h : 0 < a ∧ a ≤ out.length, (out[a - 1]'(by omega)) = x
        · obtain ⟨hda, hdk⟩ := hdup
          obtain ⟨a', rfl⟩ : ∃ a', a = a' + 1 := ⟨a - 1, by omega⟩
          obtain ⟨bo, oo, rfl, hbo, hco'⟩ := hPo a' (by omega)
          simp only [Nat.add_sub_cancel] at hdk
          rw [hdk] at hco'
          have hyq : ∀ q, (wr.drewN q).cell? ⟨bo, oo + a', none⟩ = some (Value.int .i64 (x)) := fun q => hco'
          have hd0 : decide ((0 : Int) < ((a' + 1 : Nat) : Int)) = true := decide_eq_true (by omega)
          have hwa : IntKind.i64.wrap (a' : Int) = (a' : Int) := by rw [IntKind.wrap_i64]; omega
          have hb2 : (a' : Int) < (ol : Int) := by omega
          have hb3 : (i : Int) < (n : Int) := by omega
          have hxo : x ∈ out := by rw [← hdk]; exact List.getElem_mem _
          clear hge hda hdk
          go_wp2_with fail
          go_quiet (fail)
          go_wp2_with fail
          go_roundg (1000 - i)
          case measure => omega
          case rel => exact ⟨i + 1, out, by omega, by omega, by simp, hso, fun s => by rw [HB.out.2.2.2.1 s]; exact ⟨.inr, fun h => h.elim (fun e => e ▸ hxo) id⟩, by rw [HB.out.2.1]; omega, by rw [HB.out.2.1]; exact hR.later (below_drewN wr _), hbel.trans ((below_drewN wr _).mono hBs)⟩
        · go_upto_region 9 with fail
          go_cut [55] from 42 to 55 (fun cv wx => ∃ q, cv = .bool false ∧ wx = wr.drewN q)
          case first =>
            by_cases ha0 : 0 < a
            · obtain ⟨a', rfl⟩ : ∃ a', a = a' + 1 := ⟨a - 1, by omega⟩
              have hlo : a' < out.length := by have := HB.out.2.1; omega
              obtain ⟨bo, oo, rfl, hbo, hco'⟩ := hPo a' hlo
              obtain ⟨y, hy⟩ : ∃ y : Int, out[a'] = y := ⟨out[a'], rfl⟩
              rw [hy] at hco'
              have hyq : ∀ q, (wr.drewN q).cell? ⟨bo, oo + a', none⟩ = some (Value.int .i64 (y)) := fun q => hco'
              have hd0 : decide ((0 : Int) < ((a' + 1 : Nat) : Int)) = true := decide_eq_true (by omega)
              have hwa : IntKind.i64.wrap (a' : Int) = (a' : Int) := by rw [IntKind.wrap_i64]; omega
              have hb2 : (a' : Int) < (ol : Int) := by omega
              have hb3 : (i : Int) < (n : Int) := by omega
              have hyx : y ≠ x := fun e => hdup ⟨⟨by omega, by omega⟩, by simp only [Nat.add_sub_cancel]; rw [hy]; exact e⟩
              have e2 : (y == x) = false := beq_eq_false_iff_ne.2 hyx
              clear hy hge hdup
              go_wp2_with fail
              go_quiet (fail)
              go_wp2_with fail
              go_meet
              exact ⟨_, rfl, World.drewN_drewN _ _ _⟩
            · obtain rfl : a = 0 := by omega
              clear hge hdup
              go_wp2_with fail
              go_quiet (fail)
              go_wp2_with fail
              go_meet
              exact ⟨_, rfl, World.drewN_drewN _ _ _⟩
          case rest =>
            obtain ⟨q2, rfl, rfl⟩ := hcut
            have hput : (out.take a ++ x :: out.drop a).Pairwise (· < ·) := srt_put hso (by have := HB.out.2.1; omega) (fun h => by
              have h1 := hge ⟨h, by have := HB.out.2.1; omega⟩
              have h2 : ¬ (out[a - 1]'(by have := HB.out.2.1; omega)) = x := fun e => hdup ⟨⟨h, by have := HB.out.2.1; omega⟩, e⟩
              omega) hhi
            have HP := Lib.hid hput
            clear hput hge hdup hhi
            obtain ⟨w2, hw2⟩ : ∃ w2, wr.drewN q2 = w2 := ⟨_, rfl⟩
            have hR2 : HRow w2 B 3 1 (.slice po ol co) ol (out.map iv) := by rw [← hw2]; exact hR.later (below_drewN wr q2)
            have hbel2 : Below B W w2 := by rw [← hw2]; exact hbel.trans ((below_drewN wr q2).mono hBs)
            have hcx : w2.cell? ⟨b, off + i, none⟩ = some (Value.int .i64 (x)) := by rw [← hw2]; exact hcq q2
            have hBs2 : B ≤ w2.heap.size := by rw [← hw2]; exact hBs
            have hWs : W.heap.size = B := HB.out.1
            rw [hw2]
            clear hw2 hcq hbel hR hPo hBs hc0
            obtain ⟨g, cap', w3, hrun, r3, g3, o3⟩ := app_int 101 Tryz.underlying101 w2 B HB.out.2.1 (by unfold Ro; rw [HB.out.2.1]; exact hR2) (by omega) hBs2 0
            have r3 : HRow w3 B 3 1 (.slice (some ⟨g, 0, none⟩) (ol + 1) cap') (ol + 1) (out.map iv ++ [iv 0]) := by
              unfold Ro at r3
              rw [List.length_append, HB.out.2.1, List.map_append] at r3
              exact r3
            have hb3 : Below B W w3 := hbel2.trans (below_row hR2 g3 (Nat.le_refl _) hBs2)
            have hc3 : w3.cell? ⟨b, off + i, none⟩ = some (Value.int .i64 (x)) := (World.cell?_of_block (w := W) (hb3.block b (by omega))).trans ((World.cell?_of_block (w := W) (hbel2.block b (by omega))).symm.trans hcx)
            obtain ⟨cur, hmg, hgc, hcc, _, hcs, _⟩ := r3.form
            have hs3 := size3
            obtain ⟨a1, ha1⟩ : ∃ a1 : Nat, a1 = a + 1 := ⟨_, rfl⟩
            have hwa : IntKind.i64.wrap ((a : Int) + 1) = (a1 : Int) := by rw [ha1, IntKind.wrap_i64]; omega
            have hq0 : (a : Int) ≤ (ol : Int) + 1 := by omega
            have hq1 : (a1 : Int) ≤ (ol : Int) + 1 := by omega
            have hq2 : (i : Int) < (n : Int) := by omega
            have hq3 : (a : Int) < (ol : Int) + 1 := by omega
            have hn0 : cap' ≠ a := by omega
            have HA := Lib.hid ha1
            have hml : (out.map iv).length = ol := by rw [List.length_map]; exact HB.out.2.1
            obtain ⟨Mv, hM1, hM2, r4⟩ := row_moved (w := w3.drew) hml hal cur r3 hgc (iv x)
            have hms := row_src r3 a
            have hcn : ((out.map iv).drop a).length = Nat.min (ol + 1 - a) (ol + 1 - a1) * 1 := by have h := Nat.min_eq_right (show ol + 1 - a1 ≤ ol + 1 - a by omega); show _ = min (ol + 1 - a) (ol + 1 - a1) * 1; rw [List.length_drop, hml, h]; omega
            rw [← ha1, List.append_assoc] at r4
            have hfit : a1 + ((out.map iv).drop a).length ≤ cur.size := by rw [List.length_drop, hml]; omega
            have hone : ∀ u ∈ (out.map iv).drop a, u.oneCell' = true := fun u hu => by
              obtain ⟨s, _, rfl⟩ := List.mem_map.1 (List.mem_of_mem_drop hu)
              rfl
            have HM := Lib.hid (And.intro hM1 (And.intro hM2 (And.intro hcn hml)))
            obtain ⟨D, hD⟩ : ∃ D, (out.map iv).drop a = D := ⟨_, rfl⟩
            rw [hD] at r4 hms hfit hone
            have hcn' : D.length = Nat.min (ol + 1 - a) (ol + 1 - a1) * 1 := by rw [← hD]; exact hcn
            have HD := Lib.hid (And.intro hD hcn')
            clear hD hcn hcn' hM1 hM2 hml ha1
            go_upto_region 11 with (at_builtin; refine wpList_append_run rfl (.tmp 56) (.tmp 57) 101 rfl rfl rfl hrun ?_)
            have hBs3 : B ≤ w3.heap.size := Nat.le_trans (Nat.le_of_eq hWs.symm) hb3.size
            by_cases hn1 : cap' = a1
            · have hD0 : D = [] := by rw [← HD.out.1]; exact List.drop_eq_nil_of_le (by rw [HM.out.2.2.2]; have := HA.out; omega)
              rw [hD0, List.nil_append, List.length_nil, Nat.add_zero, List.take_append_drop, Array.toArray_toList] at r4
              subst hn1
              go_region_law? (refine step_copy_sized rfl (.tmp 62) (.tmp 65) 101 101 rfl 3 1 Tryz.underlying101 hs3 0 (cap' - cap') (ol + 1 - a) (cap' - a) g 0 ⟨g, a, none⟩ (by simp [Act.eval, Act.put]) (by simp [Act.eval, Act.put]) cur 3 hgc [] (by have h := Nat.min_zero (ol + 1 - a); show _ = min (ol + 1 - a) 0 * 1; rw [h]; rfl) (by intro j u hj; simp at hj) (by simp) (by intro u hu; simp at hu) ?_)
              obtain ⟨w4, hw4⟩ : ∃ w4, w4 = w3.drew.setRow g cur := ⟨_, rfl⟩
              have gs : w3.grownBy (w3.drew.setRow g cur) (some g) := grown_setRow w3 g _
              rw [← hw4] at r4 gs ⊢
              clear hw4
              have hb4 : Below B W w4 := hb3.trans (grown_below gs (fun q hq => by cases hq; exact hmg) hBs3)
              have hc4 : w4.cell? ⟨b, off + i, none⟩ = some (Value.int .i64 (x)) := (World.cell?_of_block (w := W) (hb4.block b (by omega))).trans ((World.cell?_of_block (w := W) (hbel2.block b (by omega))).symm.trans hcx)
              obtain ⟨z0, hz0⟩ : ∃ z, w4.cell? ⟨g, a, none⟩ = some z := ⟨_, r4.cell (List.getElem?_eq_getElem (by have := HM.out.1; omega))⟩
              have f0 := r4.frozenAt a
              go_wp2_with fail
              obtain ⟨r5, g5⟩ := r4.stored a (iv x)
              have hb5 : Below B W (w4.setCell ⟨g, a, none⟩ (iv x)) := hb4.trans (grown_below g5 (fun q hq => by cases hq; exact hmg) (Nat.le_trans hBs3 gs.size))
              have hle : (out.take a ++ x :: out.drop a).length = ol + 1 := by rw [List.length_append, List.length_cons, List.length_take, List.length_drop, HB.out.2.1]; omega
              have hmp : (out.take a ++ x :: out.drop a).map iv = Mv.set a (iv x) := by rw [HM.out.2.1, List.map_append, List.map_cons, List.map_take, List.map_drop]
              go_roundg (1000 - i)
              case measure => omega
              case rel => exact ⟨i + 1, out.take a ++ x :: out.drop a, by omega, by omega, by simp, HP.out, fun s => by rw [HB.out.2.2.2.1 s]; exact mem_put, by rw [hle]; omega, by rw [hle, hmp]; exact r5, hb5⟩
            · go_region_law? (refine step_copy_sized rfl (.tmp 62) (.tmp 65) 101 101 rfl 3 1 Tryz.underlying101 hs3 (ol + 1 - a1) (cap' - a1) (ol + 1 - a) (cap' - a) g a1 ⟨g, a, none⟩ (by simp [Act.eval, Act.put]) (by simp [Act.eval, Act.put]) cur 3 hgc D HD.out.2 hms hfit hone ?_)
              obtain ⟨w4, hw4⟩ : ∃ w4, w4 = w3.drew.setRow g (List.take a1 cur.toList ++ (D ++ List.drop (a1 + D.length) cur.toList)).toArray := ⟨_, rfl⟩
              have gs : w3.grownBy (w3.drew.setRow g (List.take a1 cur.toList ++ (D ++ List.drop (a1 + D.length) cur.toList)).toArray) (some g) := grown_setRow w3 g _
              rw [← hw4] at r4 gs ⊢
              clear hw4
              have hb4 : Below B W w4 := hb3.trans (grown_below gs (fun q hq => by cases hq; exact hmg) hBs3)
              have hc4 : w4.cell? ⟨b, off + i, none⟩ = some (Value.int .i64 (x)) := (World.cell?_of_block (w := W) (hb4.block b (by omega))).trans ((World.cell?_of_block (w := W) (hbel2.block b (by omega))).symm.trans hcx)
              obtain ⟨z0, hz0⟩ : ∃ z, w4.cell? ⟨g, a, none⟩ = some z := ⟨_, r4.cell (List.getElem?_eq_getElem (by have := HM.out.1; omega))⟩
              have f0 := r4.frozenAt a
              go_wp2_with fail
              obtain ⟨r5, g5⟩ := r4.stored a (iv x)
              have hb5 : Below B W (w4.setCell ⟨g, a, none⟩ (iv x)) := hb4.trans (grown_below g5 (fun q hq => by cases hq; exact hmg) (Nat.le_trans hBs3 gs.size))
              have hle : (out.take a ++ x :: out.drop a).length = ol + 1 := by rw [List.length_append, List.length_cons, List.length_take, List.length_drop, HB.out.2.1]; omega
              have hmp : (out.take a ++ x :: out.drop a).map iv = Mv.set a (iv x) := by rw [HM.out.2.1, List.map_append, List.map_cons, List.map_take, List.map_drop]
              go_roundg (1000 - i)
              case measure => omega
              case rel => exact ⟨i + 1, out.take a ++ x :: out.drop a, by omega, by omega, by simp, HP.out, fun s => by rw [HB.out.2.2.2.1 s]; exact mem_put, by rw [hle]; omega, by rw [hle, hmp]; exact r5, hb5⟩
    · have hin' : i = n := by omega
      subst hin'
      have HX : SetR xs W (.returned (.slice po ol co)) wr := ⟨out, _, hso, fun s => by rw [hmem s, List.take_of_length_le (by rw [HN.out]; exact Nat.le_refl _)], by rw [HN.out, hoe]; omega, rfl, by rw [hoe, hB]; exact hR, by rw [hB]; exact hbel⟩
      have HX := Lib.hid HX
      clear hmem hP hPo hoe
      go_wp2_with fail
      go_ret
      exact HX.out
end Go.Proofs.YtffpmmphpdkkbaaGreat
