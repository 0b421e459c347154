/- add. add, behind the last run. Span. And. -/
import Derived.Test.YtffpmmphpdkkbaaGreatMBB
import Derived.Deep.AppendLies
namespace Go.Proofs.YtffpmmphpdkkbaaGreat
open Go Go.RowKit Go.Proofs

/-- A Map that is being made: the variable mb holds v, the runs l. -/
def Mk (W : World) (mb : Nat) (v : Value) (l : List R2) : Prop := Cell W mb v ∧ HRow W (mb + 1) 112 3 v l.length (cellsI (mk l))
theorem Mk.lt {W : World} {mb : Nat} {v : Value} {l : List R2} (h : Mk W mb v l) : mb < W.heap.size := h.1.lt
theorem HRow.mono {w : World} {base base' : Nat} {e : TypeId} {size : Nat} {v : Value} {n : Nat} {xs : List Value} (h : HRow w base e size v n xs) (hb : base' ≤ base) : HRow w base' e size v n xs := by
  refine ⟨h.1, ?_⟩
  rcases h.2 with h2 | ⟨g, cap, cur, hv, hg, rest⟩
  · exact .inl h2
  · exact .inr ⟨g, cap, cur, hv, Nat.le_trans hb hg, rest⟩
theorem Mk.mv {W : World} {mb : Nat} {v : Value} {l : List R2} (h : Mk W mb v l) : Mv W v l := HRow.mono h.2 (Nat.zero_le _)
theorem Mk.of {W W' : World} {mb : Nat} {v : Value} {l : List R2} (h : Mk W mb v l) (hb : ∀ b, mb ≤ b → b < W.heap.size → (b = mb ∨ v.ownBlock = some b) → W'.heap[b]? = W.heap[b]?) : Mk W' mb v l :=
  ⟨h.1.of (hb mb (Nat.le_refl _) h.lt (.inl rfl)), h.2.of (fun k hk => by have := h.2.lt k hk; exact hb k (by omega) this.2 (.inr hk))⟩
theorem Mk.later {W W' : World} {mb : Nat} {v : Value} {l : List R2} (h : Mk W mb v l) (hb : Below W.heap.size W W') : Mk W' mb v l := h.of (fun b _ h2 _ => hb.block b h2)

/-- Behind add: the Map with one span more. -/
def Added (W : World) (mb : Nat) (v : Value) (l : List R2) (f t : Int) (e : Ending) (W' : World) : Prop := e = .returned (.tuple #[]) ∧ ∃ v', Mk W' mb v' (addL l f t) ∧ Chg (fun b => b = mb ∨ v.ownBlock = some b) W W' ∧ ∀ q, v'.ownBlock = some q → v.ownBlock = some q ∨ W.heap.size ≤ q

theorem add_no {W : World} {mb : Nat} {v : Value} {l : List R2} {f t : Int} (h : Mk W mb v l) (hf : ¬ f < t) : Calls Tryz.prog 80 #[(Value.pointer (some ⟨mb, 0, none⟩)), (Value.int .i64 (f)), (Value.int .i64 (t))] W (Added W mb v l f t) := by
  have e := addL_no (l := l) hf
  have hf : t ≤ f := by omega
  go_enter Tryz.func80, Tryz.ntmps80
  go_wp2
  go_end0
  exact ⟨rfl, v, by rw [e]; exact h, Chg.refl _ _, fun q hq => .inl hq⟩

theorem touch_done {W : World} {mb g cap : Nat} {k : List R2} {r : R2} {f t c : Int} (h : Mk W mb (.slice (some ⟨g, 0, none⟩) (k.length + 1) cap) (k ++ [r])) (hf : f < t) (ht : f ≤ r.2) (hc : c = max t r.2) :
    Added W mb (.slice (some ⟨g, 0, none⟩) (k.length + 1) cap) (k ++ [r]) f t (.returned (.tuple #[])) (W.setCell ⟨g, k.length * 3 + 1, none⟩ (Value.int .i64 (c))).drew := by
  have hlen : (k ++ [r]).length = k.length + 1 := by simp
  have h2 := h.2
  rw [hlen] at h2
  obtain ⟨s1, s2⟩ := h2.stored (k.length * 3 + 1) (Value.int .i64 (c))
  have e := cellsI_set1 (mk k) (r.1, r.2, ((els k).length : Int)) c
  rw [mk_len, ← mk_snoc] at e
  have e2 := mk_snoc k (r.1, max t r.2)
  have e3 : cellsI (mk (k ++ [(r.1, max t r.2)])) = (cellsI (mk (k ++ [r]))).set (k.length * 3 + 1) (Value.int .i64 (c)) := by
    rw [e, e2, hc]
  have hg := h2.lt g rfl
  refine ⟨rfl, .slice (some ⟨g, 0, none⟩) (k.length + 1) cap, ?_, ((Chg.refl _ W).setCell (fun _ => .inr rfl) _).drew, fun q hq => .inl hq⟩
  rw [addL_touch hf ht]
  refine ⟨(h.1.of (Below.heap_setCell _ _ _ _ (by show mb ≠ g; omega))).drew, ?_⟩
  rw [e3, show (k ++ [(r.1, max t r.2)]).length = k.length + 1 by simp]
  exact s1.later (Below.refl _ _).drew

set_option maxRecDepth 100000 in
set_option maxHeartbeats 1000000 in
theorem add_touch {W : World} {mb : Nat} {v : Value} {k : List R2} {r : R2} {f t : Int} (h : Mk W mb v (k ++ [r])) (hf : f < t) (ht : f ≤ r.2) (hk : k.length ≤ 65536) : Calls Tryz.prog 80 #[(Value.pointer (some ⟨mb, 0, none⟩)), (Value.int .i64 (f)), (Value.int .i64 (t))] W (Added W mb v (k ++ [r]) f t) := by
  have e := addL_touch (k := k) hf ht
  have hlen : (k ++ [r]).length = k.length + 1 := by simp
  have h2 := h.2
  rw [hlen] at h2
  obtain ⟨g, cap, rfl, hc, hcm⟩ := h2.slice (by omega)
  have hg := h2.lt g rfl
  obtain ⟨c0, c1, c2⟩ := cellsI_at (mk (k ++ [r])) k.length _ (mk_get (k ++ [r]) k.length (by simp))
  have c1 := h2.cell c1
  have f1 := h2.frozenAt (k.length * 3 + 1)
  simp at c1
  have m0 := h.1.1
  have HD := fun (c : Int) (hc : c = max t r.2) => touch_done h hf ht hc
  have HH := Lib.hid HD
  obtain ⟨n, hn⟩ : ∃ n, k.length = n := ⟨_, rfl⟩
  rw [hn] at hk c1 f1 hc m0 HH
  rw [hn]
  obtain ⟨a, b⟩ := r
  have c1 : W.cell? ⟨g, n * 3 + 1, none⟩ = some (Value.int .i64 (b)) := c1
  have ht : f ≤ b := ht
  have x1 : (n : Int) < (n : Int) + 1 := by omega
  have x2 : n < n + 1 := by omega
  have x3 : (n : Int) < ((n + 1 : Nat) : Int) := by omega
  clear HD hn h hlen h2 e c0 c2
  rcases Int.lt_or_le t b with hm | hm
  · have h3 : ¬ b < t := by omega
    go_enter Tryz.func80, Tryz.ntmps80
    go_wp2_with fail
    go_region_law (fail)
    all_goals
      go_wp2_with fail
      go_end0
      exact HH.out b (by show b = max t b; omega)
  · have h3 : ¬ t < b := by omega
    go_enter Tryz.func80, Tryz.ntmps80
    go_wp2_with fail
    go_region_law (fail)
    all_goals
      go_wp2_with fail
      go_end0
      first | exact HH.out t (by show t = max t b; omega) | (have e : t = b := by omega; subst e; exact HH.out t (by show t = max t t; omega))
end Go.Proofs.YtffpmmphpdkkbaaGreat
namespace Go.Proofs.YtffpmmphpdkkbaaGreat
open Go Go.RowKit Go.Proofs

theorem info56 : (Tryz.prog.info? 112).map (fun i => (i.zero, i.size, i.bytes)) = some (some (Value.agg #[Value.int .i64 (0), Value.int .i64 (0), Value.int .i64 (0)]), 3, 24) := by kernel_rfl
theorem app_run (y : World) (base : Nat) {v : Value} {n : Nat} {xs : List Value} (hr : HRow y base 112 3 v n xs) (hm : n + 1 ≤ 1000000) (hb : base ≤ y.heap.size) (f t c : Int) :
    ∃ g cap w', (Builtin.append_ #[68, 68] 68 #[v, .slice (some ⟨y.heap.size, 0, none⟩) 1 1]).run Tryz.prog (y.alloc (.cells #[(Value.int .i64 (f)), (Value.int .i64 (t)), (Value.int .i64 (c))] 112)) = .ok (.slice (some ⟨g, 0, none⟩) (n + 1) cap) w' ∧
      HRow w' base 112 3 (.slice (some ⟨g, 0, none⟩) (n + 1) cap) (n + 1) (xs ++ [(Value.int .i64 (f)), (Value.int .i64 (t)), (Value.int .i64 (c))]) ∧ (y.alloc (.cells #[(Value.int .i64 (f)), (Value.int .i64 (t)), (Value.int .i64 (c))] 112)).grownBy w' v.ownBlock ∧ (v.ownBlock = some g ∨ y.heap.size ≤ g) := by
  obtain ⟨i0, hi0, hz0, hz1, hz2⟩ := info_parts info56
  have hh := heap_alloc_new y (.cells #[(Value.int .i64 (f)), (Value.int .i64 (t)), (Value.int .i64 (c))] 112)
  obtain ⟨g, cap, w', h1, h2, h3, h4⟩ := run_append_has (P := Tryz.prog) (y.alloc (.cells #[(Value.int .i64 (f)), (Value.int .i64 (t)), (Value.int .i64 (c))] 112)) base 68 68 112 i0 _ 3 24 Tryz.underlying68 hi0 hz0 hz1 hz2 rfl (by decide) (hr.later (below_alloc y _)) ⟨y.heap.size, 0, none⟩ 1 1 [(Value.int .i64 (f)), (Value.int .i64 (t)), (Value.int .i64 (c))] rfl
    (by exact World.news_of_block hh) (by simp [Value.oneCell']) (by decide) (by unfold maxLen; omega) (by omega) (by rw [World.size_alloc]; omega)
  exact ⟨g, cap, w', h1, h2, h3, h4.imp id (fun h => by rw [World.size_alloc] at h; omega)⟩

/-- What append does, behind whatever was made ahead of it. -/
theorem apart_done {W : World} {mb n cap : Nat} {p : Option Addr} {l : List R2} {f t z : Int} (h : Mk W mb (.slice p n cap) l) (hn : l.length = n) (hn1 : n ≤ 65536) (hz : z = ((els l).length : Int)) (he : addL l f t = l ++ [(f, t)]) (y : World) (hy : Below W.heap.size W y) :
    ∃ g cap' w3, (Builtin.append_ #[68, 68] 68 #[.slice p n cap, .slice (some ⟨y.heap.size, 0, none⟩) 1 1]).run Tryz.prog (y.alloc (.cells #[(Value.int .i64 (f)), (Value.int .i64 (t)), (Value.int .i64 (z))] 112)) = .ok (.slice (some ⟨g, 0, none⟩) (n + 1) cap') w3 ∧
      w3.cell? ⟨mb, 0, none⟩ = some (.slice p n cap) ∧ w3.frozen? ⟨mb, 0, none⟩ = false ∧ Added W mb (.slice p n cap) l f t (.returned (.tuple #[])) (w3.setCell ⟨mb, 0, none⟩ (.slice (some ⟨g, 0, none⟩) (n + 1) cap')) := by
  have h1 := h.later hy
  have h2 := h1.2
  rw [hn] at h2
  obtain ⟨g, cap', w3, hrun, r3, g3, own⟩ := app_run y (mb + 1) h2 (by omega) (by have := h1.lt; omega) f t z
  have hlt := h1.lt
  have hm3 : w3.heap[mb]? = (y.alloc (.cells #[(Value.int .i64 (f)), (Value.int .i64 (t)), (Value.int .i64 (z))] 112)).heap[mb]? := g3.block mb (by simp; omega) (fun e => by have := (h2.lt mb e.symm).1; omega)
  have hm4 : w3.heap[mb]? = y.heap[mb]? := hm3.trans (Below.heap_alloc _ _ _ hlt)
  have hc3 := h1.1.of hm4
  have hgm : g ≠ mb := by
    rcases own with e | e
    · have := (h2.lt g e).1; omega
    · omega
  refine ⟨g, cap', w3, hrun, hc3.1, hc3.2, rfl, .slice (some ⟨g, 0, none⟩) (n + 1) cap', ?_, ?_, fun q hq => ?_⟩
  · rw [he]
    refine ⟨hc3.set _, ?_⟩
    rw [mk_snoc, cellsI_append, ← hz, show (l ++ [(f, t)]).length = n + 1 by simp [hn]]
    exact r3.of (fun k hk => Below.heap_setCell _ _ _ _ (by cases hk; exact hgm))
  · exact (((Chg.of_below hy).alloc _).grown g3 (fun k hk _ => .inr hk)).setCell (fun _ => .inl rfl) _
  · cases hq
    exact own.imp id (fun e => Nat.le_trans hy.size e)

set_option maxRecDepth 100000 in
set_option maxHeartbeats 1000000 in
theorem add_new {W : World} {mb : Nat} {v : Value} {l : List R2} {f t : Int} (hl : Nrm l) (h : Mk W mb v l) (hf : f < t) (ht : ∀ k r, l = k ++ [r] → ¬ f ≤ r.2) : Calls Tryz.prog 80 #[(Value.pointer (some ⟨mb, 0, none⟩)), (Value.int .i64 (f)), (Value.int .i64 (t))] W (Added W mb v l f t) := by
  have hn1 := runs_len hl
  have he : addL l f t = l ++ [(f, t)] := by
    rcases snoc_or l with rfl | ⟨k, r, rfl⟩
    · exact addL_nil hf
    · exact addL_apart hf (ht k r rfl)
  have hcnt0 := fun y (hy : Below W.heap.size W y) => count_any hl (h.mv.later hy)
  obtain ⟨z, hz⟩ : ∃ z, z = ((els l).length : Int) := ⟨_, rfl⟩
  rw [← hz] at hcnt0
  obtain ⟨p, cap, rfl, hc, hcm⟩ := h.mv.slice
  have hm0 : ∀ y, Below W.heap.size W y → y.cell? ⟨mb, 0, none⟩ = some (.slice p l.length cap) := fun y hy => (h.later hy).1.1
  have hm0' := hm0 W (Below.refl _ _)
  have hlast : ∀ k, l.length = k + 1 → ∃ g b, p = some ⟨g, 0, none⟩ ∧ W.cell? ⟨g, k * 3 + 1, none⟩ = some (Value.int .i64 (b)) ∧ ¬ f ≤ b := fun k hk => by
    obtain ⟨g, hg, _, _, c1, _⟩ := h.mv.run (j := k) (by omega)
    refine ⟨g, l[k].2, hg, c1, ht (l.take k) l[k] ?_⟩
    have e := List.take_succ_eq_append_getElem (l := l) (i := k) (by omega)
    rw [← e, List.take_of_length_le (by omega)]
  obtain ⟨n, hn⟩ : ∃ n, l.length = n := ⟨_, rfl⟩
  have HA : Hid (∀ y, Below W.heap.size W y → _) := Lib.hid (apart_done (by rw [hn] at h; exact h) hn (by omega) hz he)
  rw [hn] at hn1 hm0 hm0' hlast hcnt0 hc
  simp only [hn]
  clear h hz he hn hl ht
  cases n with
  | zero =>
    clear hlast
    have hcnt := Lib.hid hcnt0
    have hm1 := Lib.hid hm0
    clear hcnt0 hm0
    go_enter Tryz.func80, Tryz.ntmps80
    go_wp2_with fail
    have hent : ∀ a w, (callFunc 29 a).run Tryz.prog w = .ok (.enter 29 a) w := by intro a w; rfl
    have hcc := hcnt.out W.drew (Below.refl _ W).drew
    go_region_law (first
      | (refine step_call hent [.agg #[.slice p 0 cap]] (by simp [Act.eval]) ?_; (with_reducible refine hcc.mono ?_); rintro e x2 ⟨rfl, hb2⟩; have hW2 : Below W.heap.size W x2 := (Below.refl _ W).drew.trans hb2; obtain ⟨g, cap', w3, hrun, c3, f3, hfin⟩ := HA.out x2 hW2; have m2 := hm1.out x2 hW2; have z2 : mb < x2.heap.size := World.block_lt_of_cell? x2 ⟨mb, 0, none⟩ m2; have HF := Lib.hid hfin; clear hfin hW2 hb2; refine ⟨_, rfl, ?_⟩)
      | refine step_append_run rfl (.tmp 51) (.tmp 59) 68 rfl rfl rfl hrun ?_)
    all_goals
      go_wp2_with fail
      go_end0
      exact HF.out
  | succ n =>
    obtain ⟨g0, b, rfl, c1, hb⟩ := hlast n rfl
    have x1 : (n : Int) < (n : Int) + 1 := by omega
    have x2 : n < n + 1 := by omega
    have x3 : (n : Int) < ((n + 1 : Nat) : Int) := by omega
    have hb' : b < f := by omega
    have hcnt := Lib.hid hcnt0
    have hm1 := Lib.hid hm0
    clear hcnt0 hm0 hlast
    go_enter Tryz.func80, Tryz.ntmps80
    go_wp2_with fail
    have hent : ∀ a w, (callFunc 29 a).run Tryz.prog w = .ok (.enter 29 a) w := by intro a w; rfl
    have hcc := hcnt.out W.drew (Below.refl _ W).drew
    go_region_law (first
      | (refine step_call hent [.agg #[.slice (some ⟨g0, 0, none⟩) (n + 1) cap]] (by simp [Act.eval]) ?_; (with_reducible refine hcc.mono ?_); rintro e x2 ⟨rfl, hb2⟩; have hW2 : Below W.heap.size W x2 := (Below.refl _ W).drew.trans hb2; obtain ⟨g, cap', w3, hrun, c3, f3, hfin⟩ := HA.out x2 hW2; have m2 := hm1.out x2 hW2; have z2 : mb < x2.heap.size := World.block_lt_of_cell? x2 ⟨mb, 0, none⟩ m2; have HF := Lib.hid hfin; clear hfin hW2 hb2; refine ⟨_, rfl, ?_⟩)
      | refine step_append_run rfl (.tmp 51) (.tmp 59) 68 rfl rfl rfl hrun ?_)
    all_goals
      go_wp2_with fail
      go_end0
      exact HF.out
end Go.Proofs.YtffpmmphpdkkbaaGreat
namespace Go.Proofs.YtffpmmphpdkkbaaGreat
open Go Go.RowKit Go.Proofs

theorem add_any {W : World} {mb : Nat} {v : Value} {l : List R2} {f t : Int} (hl : Nrm l) (h : Mk W mb v l) : Calls Tryz.prog 80 #[(Value.pointer (some ⟨mb, 0, none⟩)), (Value.int .i64 (f)), (Value.int .i64 (t))] W (Added W mb v l f t) := by
  by_cases hf : f < t
  · rcases snoc_or l with rfl | ⟨k, r, rfl⟩
    · exact add_new hl h hf (fun k r e => by simp at e)
    · by_cases ht : f ≤ r.2
      · exact add_touch h hf ht (runs_len hl.left)
      · exact add_new hl h hf (fun k' r' e => by
          have := List.append_inj' e rfl
          rw [List.cons.injEq] at this
          rw [← this.2.1]
          exact ht)
  · exact add_no h hf
theorem mk_start (W : World) : Mk (W.alloc (.cells #[.slice none 0 0] 70)) W.heap.size (.slice none 0 0) [] := ⟨Cell.new W _ 70, HRow.nil⟩

/-- The answer is a Map of the set P. -/
def IsMap (P : Int → Bool) (W : World) (e : Ending) (w' : World) : Prop := ∃ v l, e = .returned (.agg #[v]) ∧ Mv w' v l ∧ Nrm l ∧ Is l P ∧ Below W.heap.size W w'
theorem fin_map {W x : World} {rb mb : Nat} {v : Value} {l : List R2} {P : Int → Bool} (h : Mk x mb v l) (hr : rb < mb) (hl : Nrm l) (hP : Is l P) (hb : Below W.heap.size W x) (hrb : W.heap.size ≤ rb) :
    IsMap P W (.returned (.agg #[v])) (x.setCell ⟨rb, 0, none⟩ v) :=
  ⟨v, l, rfl, HRow.of h.mv (fun k hk => Below.heap_setCell _ _ _ _ (by have := (h.2.lt k hk).1; show k ≠ rb; omega)), hl, hP, hb.setCell hrb _⟩
theorem Mk.below {W x y : World} {mb : Nat} {v : Value} {l : List R2} (h : Mk x mb v l) (hc : Chg (fun b => b = mb ∨ v.ownBlock = some b) x y) (hb : Below W.heap.size W x) (hm : W.heap.size ≤ mb) : Below W.heap.size W y :=
  hb.trans (hc.below hb.size (fun b hlt hs => by
    rcases hs with rfl | hs
    · omega
    · have := (h.2.lt b hs).1; omega))
/-- What lies below the Map that is made stays. -/
theorem Mk.keep {x y : World} {mb : Nat} {v : Value} {l : List R2} (h : Mk x mb v l) (hc : Chg (fun b => b = mb ∨ v.ownBlock = some b) x y) {b : Nat} (hb : b < mb) : y.heap[b]? = x.heap[b]? :=
  hc.block b (by have := h.lt; omega) (fun hs => by
    rcases hs with rfl | hs
    · omega
    · have := (h.2.lt b hs).1; omega)

theorem Mk.slc {W : World} {mb : Nat} {v : Value} {l : List R2} (h : Mk W mb v l) : ∃ p n c, v = .slice p n c := by
  obtain ⟨p, c, e, _⟩ := h.2.isslice
  exact ⟨p, _, c, e⟩
def spanP (a b x : Int) : Bool := decide (0 ≤ x ∧ x < 65536 ∧ a ≤ x ∧ x < b)
theorem span_is (a b : Int) : Nrm (addL [] (if a < 0 then 0 else a) (if 65536 < b then 65536 else b)) ∧ Is (addL [] (if a < 0 then 0 else a) (if 65536 < b then 65536 else b)) (spanP a b) := by
  obtain ⟨f, hf⟩ : ∃ f, (if a < 0 then 0 else a) = f := ⟨_, rfl⟩
  obtain ⟨t, ht⟩ : ∃ t, (if 65536 < b then 65536 else b) = t := ⟨_, rfl⟩
  have h1 : 0 ≤ f ∧ a ≤ f ∧ (f = a ∨ f = 0) := by rw [← hf]; split <;> omega
  have h2 : t ≤ 65536 ∧ t ≤ b ∧ (t = b ∨ t = 65536) := by rw [← ht]; split <;> omega
  rw [hf, ht]
  have hfit : Fits [] f t := fun _ => ⟨h1.1, h2.1, fun r h => by simp at h⟩
  refine ⟨add_nrm Nrm.nil hfit, fun x => ?_⟩
  rw [add_mem Nrm.nil hfit]
  unfold spanP
  rw [decide_eq_true_eq]
  have := mem_nil x
  constructor
  · intro h
    have := h.resolve_left this
    omega
  · intro h
    right
    omega
end Go.Proofs.YtffpmmphpdkkbaaGreat
namespace Go.Proofs.YtffpmmphpdkkbaaGreat
open Go Go.RowKit Go.Proofs

/-- What the two boxed Maps, the answer's variable and the Map that is made lie in. -/
theorem box4 (W : World) (va vb : Value) : ∃ W4 : World, (((W.alloc (.cells #[va] 70)).alloc (.cells #[vb] 70)).alloc (.cells #[.slice none 0 0] 70)).alloc (.cells #[.slice none 0 0] 70) = W4 ∧ Below W.heap.size W W4 ∧
    W4.heap[W.heap.size]? = some (.cells #[va] 70) ∧ W4.heap[W.heap.size + 1]? = some (.cells #[vb] 70) ∧ W4.heap[W.heap.size + 1 + 1]? = some (.cells #[.slice none 0 0] 70) ∧ Mk W4 (W.heap.size + 1 + 1 + 1) (.slice none 0 0) [] := by
  refine ⟨_, rfl, (((below_alloc W _).alloc (by simp) _).alloc (by simp; omega) _).alloc (by simp; omega) _, ?_, ?_, ?_, ?_⟩
  · exact (Below.heap_alloc _ _ _ (by simp; omega)).trans ((Below.heap_alloc _ _ _ (by simp; omega)).trans ((Below.heap_alloc _ _ _ (by simp)).trans (heap_alloc_new W _)))
  · have := heap_alloc_new (W.alloc (.cells #[va] 70)) (.cells #[vb] 70)
    rw [World.size_alloc] at this
    exact (Below.heap_alloc _ _ _ (by simp)).trans ((Below.heap_alloc _ _ _ (by simp)).trans this)
  · have := heap_alloc_new ((W.alloc (.cells #[va] 70)).alloc (.cells #[vb] 70)) (.cells #[.slice none 0 0] 70)
    rw [World.size_alloc, World.size_alloc] at this
    exact (Below.heap_alloc _ _ _ (by simp)).trans this
  · have := mk_start (((W.alloc (.cells #[va] 70)).alloc (.cells #[vb] 70)).alloc (.cells #[.slice none 0 0] 70))
    rw [World.size_alloc, World.size_alloc, World.size_alloc] at this
    exact this

theorem Mk.below' {x y : World} {mb : Nat} {v : Value} {l : List R2} (h : Mk x mb v l) (hc : Chg (fun b => b = mb ∨ v.ownBlock = some b) x y) : Below mb x y :=
  hc.below (Nat.le_of_lt h.lt) (fun b hlt hs => by
    rcases hs with rfl | hs
    · omega
    · have := (h.2.lt b hs).1; omega)
theorem new_two (w : World) (o o' : Obj) : ((w.alloc o).alloc o').drew.heap[w.heap.size]? = some o := (Below.heap_alloc _ _ _ (by simp)).trans (heap_alloc_new w o)
theorem new_two' (w : World) (o o' : Obj) : ((w.alloc o).alloc o').drew.heap[w.heap.size + 1]? = some o' := by
  have := heap_alloc_new (w.alloc o) o'
  rw [World.size_alloc] at this
  exact this
end Go.Proofs.YtffpmmphpdkkbaaGreat
