/- same. -/
import Derived.Test.YtffpmmphpdkkbaaGreatMBM
import Derived.Test.YtffpmmphpdkkbaaGreatMBP1
import Derived.Test.YtffpmmphpdkkbaaGreatMBQ2
import Derived.Sort.QuietTacIn
import Derived.Sort.BigQuietIn
import Derived.Maps.OwnIn
import Derived.Maps.AppendAt
namespace Go.Proofs.YtffpmmphpdkkbaaGreat
open Go Go.RowKit Go.Shelf Go.Proofs
attribute [local go_sem] Oper.semAt_some
attribute [local go_sem] eql51n eql51f wide_fn wide_depth

theorem eq43_step (a b : Int) (w : World) (d : Nat) : (Op.equalIn (d + 1) 3 (.int .i64 a) (.int .i64 b)).run Tryz.prog w = .ok (a == b) w := run_equalIn_int w d 3 .i64 .i64 a b Tryz.underlying3
theorem part43 (cs : Array Value) (i : Nat) (v : Value) (h : cs[i]? = some v) (w : World) : (part 3 cs i).run Tryz.prog w = .ok v w := by
  unfold part
  simp [Sem.run_bind, Tryz.isAgg3, h]
set_option maxHeartbeats 400000 in
theorem eq43 (d : Nat) (a0 a1 b0 b1 : Int) (w : World) :
    (Op.equalIn (d + 2) 133 (.agg #[.int .i64 a0, .int .i64 a1]) (.agg #[.int .i64 b0, .int .i64 b1])).run Tryz.prog w = .ok (a0 == b0 && a1 == b1) w := by
  unfold Op.equalIn
  simp only [Sem.run_bind, run_underlying Tryz.underlying133, Result.andThen_ok, Tryz.sizeOf3, Nat.mul_one]
  simp [List.range', eq43_step, part43, Sem.run_ite]
  by_cases h0 : a0 = b0 <;> by_cases h1 : a1 = b1 <;> simp [h0, h1]
theorem neq43 (a b : Int) (w : World) : (binOp .neq 133 (.agg #[.int .i64 a, .int .i64 b]) (.agg #[.int .i64 a, .int .i64 b])).run Tryz.prog w = .ok (.bool false) w := by
  rw [run_neq_struct, eq43 9998]
  simp
theorem results_cell1 {fn : Func} {p : Tmp} {ty : TypeId} (h : fn.results = #[.cell p ty]) (tmps : Array Value) (P : Program) (w : World) :
    (results fn tmps).run P w = ((asAddr (tmps.getD p undef)).run P w).andThen fun a w₁ => (loadVar ty a).run P w₁ := by
  simp only [results, h]
  simp [Sem.run_bind]
theorem post_markc {F : Fence} {n : Nat} {P : Program} {fn : Func} {R : Ending → World → Prop} {tmps : Array Value} {w : World} {D : Nat} {v : Value} (hK : w.heap[D]? = some (.deferred (some [])))
    (h : ∀ w', Chg (fun b => b = D) w w' → w'.heap.size = w.heap.size → (results fn tmps).run P w' = .ok v w' ∧ R (.returned v) w') :
    bodyPostM F n P fn R .ret { tmps := tmps, defers := [markAt D] } w := by
  have : LeavesInM F n P fn tmps R [markAt D] .returning w := by
    have h' := h (w.putObj D (.deferred none)) ((Chg.refl (fun b => b = D) w).putObj (l := D) (fun _ => rfl) _) (by simp)
    refine ⟨by simp, .inl ⟨_, _, rfl, run_takeDeferred hK, ?_⟩⟩
    exact ⟨_, h'.1, h'.2⟩
  exact this
/-- same, behind the range over the Map. -/
structure Sm (W : World) (v : Value) (P : Int → Bool) (xs : List Int) (p : Option Addr) (c gb nb D : Nat) (pg : Option Addr) (cg : Nat) (x : World) : Prop where
  mv : Vm x v P
  km : Cell x nb v
  ks : Cell x (nb + 1) (.slice p xs.length c)
  kr : Cell x (nb + 2) (.bool false)
  kg : Cell x gb (.slice pg xs.length cg)
  rs : Rd x p xs
  rg : Rd x pg xs
  kd : x.heap[D]? = some (.deferred (some []))
  bel : Below W.heap.size W x
theorem Cell.later {w w' : World} {b : Nat} {v : Value} (h : Cell w b v) (hb : Below w.heap.size w w') : Cell w' b v := h.of (hb.block b h.lt)
theorem Sm.later {W x y : World} {v : Value} {P : Int → Bool} {xs : List Int} {p pg : Option Addr} {c gb nb D cg : Nat} (h : Sm W v P xs p c gb nb D pg cg x) (hb : Below x.heap.size x y) : Sm W v P xs p c gb nb D pg cg y :=
  ⟨h.mv.later hb, h.km.later hb, h.ks.later hb, h.kr.later hb, h.kg.later hb, h.rs.later hb, h.rg.later hb, heap_below hb h.kd, below_on h.bel hb⟩
theorem Sm.sees {W x : World} {v : Value} {P : Int → Bool} {xs : List Int} {p pg : Option Addr} {c gb nb D cg : Nat} (h : Sm W v P xs p c gb nb D pg cg x) : x.cell? ⟨nb, 0, none⟩ = some v ∧ x.cell? ⟨nb + 1, 0, none⟩ = some (.slice p xs.length c) ∧ x.cell? ⟨gb, 0, none⟩ = some (.slice pg xs.length cg) :=
  ⟨h.km.1, h.ks.1, h.kg.1⟩


theorem wpListIn_append_run {F : Fence} {n : Nat} {P : Program} {w w' : World} {ops : Array Oper} {rest : List Oper} {o : Oper} {a : Act} {Q : Exit → Act → World → Prop} {vs vx v' : Value} (hgd : o.guard = none) (s x : Operand) (t : TypeId)
    (ho : o.op = .call { callee := .builtin .append, args := #[s, x], argTypes := #[t, t] }) (hs : a.eval s = vs) (hx : a.eval x = vx)
    (hr : (Builtin.append_ #[t, t] o.type #[vs, vx]).run P w = .ok v' w')
    (h : wpListIn F n P ops Q rest (a.put o.dst v') w') : wpListIn F n P ops Q (o :: rest) a w := by
  refine wpListIn_plain hgd fun K hK' => ?_
  unfold Oper.wpIn
  refine ⟨?_, ?_⟩
  · simp [Oper.about, ho, resolve, Target.leads, Sem.run_pure]
  · rw [Oper.semAt_plain F _ _ (by rw [ho]; intro c hc'; cases hc')]
    simp [execOp, ho, resolve, invoke, builtin, hs, hx, hr, Result.andThen]
    exact hK' _ _ h
theorem Rd.at {W : World} {b off : Nat} {xs : List Int} (h : Rd W (some ⟨b, off, none⟩) xs) (i : Nat) (hi : i < xs.length) : W.cell? ⟨b, off + i, none⟩ = some (Value.int .i64 (xs[i])) := by
  obtain ⟨b', o', e, _, c⟩ := h i hi
  cases e
  exact c
theorem Rp.at {W : World} {p : Option Addr} {c : Nat} {L : List R2} (h : Rp W 0 (.slice p L.length c) L) (i : Nat) (hi : i < L.length) : ∃ g, p = some ⟨g, 0, none⟩ ∧ W.cell? ⟨g, i * 2, none⟩ = some (Value.int .i64 (L[i].1)) ∧ W.cell? ⟨g, i * 2 + 1, none⟩ = some (Value.int .i64 (L[i].2)) := by
  obtain ⟨g, cap, e, _, _⟩ := HRow.slice h (by omega)
  cases e
  obtain ⟨r0, r1⟩ := cells2_at L i L[i] (List.getElem?_eq_getElem hi)
  exact ⟨g, rfl, HRow.cell h r0, HRow.cell h r1⟩
theorem vruns {W : World} {v : Value} {P : Int → Bool} (h : Vm W v P) : Calls Tryz.prog 76 #[.agg #[v]] W (RunsAre (ofL (elems P)) W) := by
  obtain ⟨l, h1, h2, h3⟩ := h
  rw [← h3.els h2, ofL_els h2]
  exact runs_any h2 h1

/-- What has come of the Map's elements: the row in its box. -/
def GotI (xs : List Int) (n gb k : Nat) (T : Nat → Prop) (W : World) : Prop := k ≤ n ∧ ∃ vg, (∀ b, T b ↔ b = gb ∨ vg.ownBlock = some b) ∧ Cell W gb vg ∧ HRow W (gb + 1) 3 1 vg k ((xs.take k).map iv)
set_option maxRecDepth 100000 in
set_option maxHeartbeats 4000000 in
theorem same_any {P : Int → Bool} {v : Value} (xs : List Int) (p : Option Addr) (n c : Nat) (W : World) (hn : xs.length = n) (hxs : xs = elems P) (hV : Vm W v P) (hP : Rd W p xs) :
    Calls Tryz.prog 52 #[.agg #[v], .slice p n c] W fun e W' => e = .returned (.bool true) ∧ Below W.heap.size W W' := by
  obtain ⟨pv, nv, cv, rfl⟩ := hV.slc
  obtain ⟨l, hmv, hnl, hil⟩ := hV
  have hle : els l = xs := by rw [hil.els hnl, hxs]
  have hn6 : n ≤ 65536 := by rw [← hn, hxs]; exact elems_len P
  have HX := Lib.hid hxs
  have HL := Lib.hid hle
  have HN := Lib.hid hn
  clear hxs
  refine (callsIn_wide (n := 0)).1 ?_
  refine callsIn_of_wp_marks Tryz.func52 rfl trivial ?_ rfl
  simp only [Tryz.ntmps52, List.size_toArray, List.length_cons, List.length_nil, Nat.reduceAdd, Nat.reduceSub, Array.replicate_succ, Array.replicate_zero, List.push_toArray, List.append_toArray, List.nil_append, List.cons_append]
  gi_wp2_with fail
  obtain ⟨W4, hW4⟩ : ∃ W4, (((W.alloc (.cells #[.slice pv nv cv] 70)).alloc (.cells #[.slice p n c] 101)).alloc (.cells #[.bool false] 4)).alloc (.cells #[.slice none 0 0] 35) = W4 := ⟨_, rfl⟩
  obtain ⟨nb, hnb⟩ : ∃ nb, W.heap.size = nb := ⟨_, rfl⟩
  have hb4 : Below W.heap.size W W4 := by rw [← hW4]; exact (((below_alloc W _).alloc (by simp) _).alloc (by simp; omega) _).alloc (by simp; omega) _
  have hz4 : W4.heap.size = nb + 1 + 1 + 1 + 1 := by rw [← hW4, ← hnb]; simp
  have k0 : Cell W4 nb (.slice pv nv cv) := by rw [← hW4, ← hnb]; exact (((Cell.new W _ 70).alloc _).alloc _).alloc _
  have k1 : Cell W4 (nb + 1) (.slice p n c) := by rw [← hW4, ← hnb]; exact ((Cell.new2 W _ _ 101).alloc _).alloc _
  have k2 : Cell W4 (nb + 1 + 1) (.bool false) := by
    have := (Cell.new2 (W.alloc (.cells #[.slice pv nv cv] 70)) (.cells #[.slice p n c] 101) (.bool false) 4).alloc (.cells #[.slice none 0 0] 35)
    rw [World.size_alloc, hW4, hnb] at this
    exact this
  have k3 : Cell W4 (nb + 1 + 1 + 1) (.slice none 0 0) := by
    have := Cell.new2 ((W.alloc (.cells #[.slice pv nv cv] 70)).alloc (.cells #[.slice p n c] 101)) (.cells #[.bool false] 4) (.slice none 0 0) 35
    rw [World.size_alloc, World.size_alloc, hW4, hnb] at this
    exact this
  rw [hW4]
  clear hW4
  have hmv4 := hmv.later hb4
  have hP4 := hP.later hb4
  have h30 := all_any hmv4
  rw [hnb]
  obtain ⟨gb, hgb⟩ : ∃ gb, nb + 1 + 1 + 1 = gb := ⟨_, rfl⟩
  rw [hgb] at k3 hz4
  have hc5 := Cell.new W4 (.slice pv nv cv) 70
  have k0c := k0.1
  gi_wp2_with (gi_at_call 37; refine callsIn_of_calls rfl ?_; (with_reducible refine h30.mono ?_); rintro e x5 ⟨rfl, hx5⟩)
  rw [hz4] at hc5
  try rw [hz4]
  have hb5 : Below W4.heap.size W4 x5 := by rw [hx5]; exact below_alloc W4 _
  have hz5 : x5.heap.size = gb + 1 + 1 := by rw [hx5]; simp [hz4]
  rw [← hx5] at hc5 ⊢
  clear hx5 h30
  have k0 := k0.later hb5
  have k1 := k1.later hb5
  have k2 := k2.later hb5
  have k3 := k3.later hb5
  have hmv5 := hmv4.later hb5
  have hP5 := hP4.later hb5
  have hb5 := below_on hb4 hb5
  have hgv := all_gives (gb + 1) hnl x5 hmv5
  rw [hle] at hgv
  clear hle
  generalize hact : ({ tmps := _, defers := _ } : Act) = act
  have hvb : ∀ b, (Value.slice pv nv cv).ownBlock = some b → b < nb := fun b hb => by have := (HRow.lt hmv b hb).2; omega
  try rw [hgb] at hact
  have hcl5 : ∀ T W1, Chg (fun b => (b = gb) ∨ False) x5 W1 → (T : Nat → Prop) = T → W1.cell? ⟨nb + 1, 0, none⟩ = some (.slice p n c) := fun T W1 h _ => (World.cell?_of_block (w := x5) (h.block (nb + 1) (by omega) (fun x => by rcases x with x | x; (· omega); exact x))).trans k1.1
  refine wpIn_rangeFunc_sep (sv := .func (.func 65) #[] #[(Value.pointer (some ⟨gb + 1, 0, none⟩))]) (by rw [← hact]; rfl) hgv (fun _ => rfl)
    (GotI xs n gb) (fun _ _ _ _ => False) ?l1 (fun _ _ _ _ _ h => h.elim) (fun b => b = gb) ?hS ?hM ?hSM ⟨hc5, hmv5⟩
    ⟨Nat.zero_le _, .slice none 0 0, fun b => by simp [Value.ownBlock], k3, HRow.nil⟩
    (fun x => { tmps := (act.tmps.setIfInBounds 17 (Value.int .i64 (x))).setIfInBounds 7 (Value.int .i64 (x)), defers := [] }) ?pre ?body ?done (fun _ _ _ _ _ _ _ _ _ h => h.elim)
  case l1 =>
    rintro k T A B ⟨hk, vg, hT, a1, a2⟩ hin hsz hb
    exact ⟨hk, vg, hT, a1.of (hb _ ((hT _).2 (.inl rfl))), a2.of (fun q hq => hb q ((hT q).2 (.inr hq)))⟩
  case hS => rintro b rfl; omega
  case hM =>
    rintro b (rfl | h)
    · omega
    · have := hvb b h; omega
  case hSM =>
    rintro b rfl (h | h)
    · omega
    · have := hvb b h; omega
  case pre =>
    intro l x W K hK
    subst hact
    dsimp only [enc1]
    gi_wp2
    exact hK
  case body =>
    rintro l k hk T W1 hin hchg ⟨hkL, vg, hT, d1, hrow⟩
    have hk' : k < n := by omega
    have hcl1 : W1.cell? ⟨nb + 1, 0, none⟩ = some (.slice p n c) := hcl5 (fun _ => False) W1 hchg rfl
    have htk : (xs.take (k + 1)).map iv = (xs.take k).map iv ++ [(Value.int .i64 (xs[k]))] := by rw [List.take_succ_eq_append_getElem hk, List.map_append]; rfl
    obtain ⟨x, hx⟩ : ∃ x, xs[k] = x := ⟨_, rfl⟩
    rw [hx] at htk ⊢
    have hsz1 : gb + 1 + 1 ≤ W1.heap.size := by have := hchg.size; omega
    have hkl : (xs.take k).length = k := by rw [List.length_take]; omega
    have hro : Ro W1 (gb + 1) vg (xs.take k) := by unfold Ro; rw [hkl]; exact hrow
    obtain ⟨g, cap', w2, hrun, r2, g2, own⟩ := app_int 35 Tryz.underlying35 W1 (gb + 1) hkl hro (by omega) (by omega) x
    have hgg : g ≠ gb := by have := (HRow.lt r2 g rfl).1; omega
    have hc1 : Chg T W1 w2 := (Chg.refl T W1).grown g2 (fun b y _ => (hT b).2 (.inr y))
    have hblk : w2.heap[gb]? = W1.heap[gb]? := g2.block gb d1.lt (fun y => by have := (hrow.lt gb y.symm).1; omega)
    have d2 : Cell w2 gb vg := d1.of hblk
    have hnb2 : w2.cell? ⟨nb + 1, 0, none⟩ = some (.slice p n c) := by
      rw [World.cell?_of_block (w := W1) (g2.block (nb + 1) (by omega) (fun y => by have := (hrow.lt (nb + 1) y.symm).1; omega))]
      exact hcl1
    have hs2 : (w2.setCell ⟨gb, 0, none⟩ (.slice (some ⟨g, 0, none⟩) (k + 1) cap')).heap.size = w2.heap.size := by simp [World.setCell]
    have hend : ∃ S2, Grows T S2 W1 ∧ InW S2 (w2.setCell ⟨gb, 0, none⟩ (.slice (some ⟨g, 0, none⟩) (k + 1) cap')) ∧ Chg T W1 (w2.setCell ⟨gb, 0, none⟩ (.slice (some ⟨g, 0, none⟩) (k + 1) cap')) ∧
        GotI xs n gb (k + 1) S2 (w2.setCell ⟨gb, 0, none⟩ (.slice (some ⟨g, 0, none⟩) (k + 1) cap')) := by
      refine ⟨fun b => b = gb ∨ g = b, ?_, ?_, hc1.setCell (fun _ => (hT _).2 (.inl rfl)) _, by omega, .slice (some ⟨g, 0, none⟩) (k + 1) cap', fun b => by simp [Value.ownBlock], d2.set _, ?_⟩
      · rintro b (x | x)
        · exact .inl ((hT b).2 (.inl x))
        · subst x
          exact own.imp (fun y => (hT _).2 (.inr y)) id
      · rintro b (x | x)
        · rw [hs2, x]; exact d2.lt
        · rw [hs2, ← x]; exact (HRow.lt r2 g rfl).2
      · rw [htk]
        have e : (xs.take k ++ [x]).map iv = (xs.take k).map iv ++ [(Value.int .i64 (x))] := by rw [List.map_append]; rfl
        rw [← e]
        have r3 : HRow w2 (gb + 1) 3 1 (.slice (some ⟨g, 0, none⟩) (k + 1) cap') (k + 1) ((xs.take k ++ [x]).map iv) := by
          have h := r2
          unfold Ro at h
          rw [List.length_append, hkl] at h
          exact h
        exact r3.of (fun q hq => Below.heap_setCell _ _ _ _ (by cases hq; exact hgg))
    have HE := Lib.hid hend
    have e1 := d2.1
    have e2 := d2.2
    have d1c := d1.1
    have hnk : ¬ (n : Int) < (k : Int) + 1 := by omega
    obtain ⟨pg, cg, rfl, _, _⟩ := hrow.isslice
    subst hact
    dsimp only
    clear hin hchg htk hT hend d1 d2 r2 g2 own hrow hro hc1
    gi_wp2_with (gi_at_builtin; refine wpListIn_append_run rfl (.tmp 18) (.tmp 20) 35 rfl rfl rfl hrun ?_)
    exact HE.out
  case done =>
    rintro S' W' hg hi hch ⟨hk, vg, hT, d1, hrow⟩ d4 hK hnD'
    subst hact
    have hcb : ∀ b, b < x5.heap.size → b ≠ gb → W'.heap[b]? = x5.heap[b]? := fun b hb hn => hch.block b hb (fun h => by rcases h with h | h; (· exact hn h); exact h)
    have hbW : Below W.heap.size W W' := hb5.trans (hch.below hb5.size (fun b hb h => by rcases h with h | h; (· omega); exact h))
    have hbN : Below (nb + 2) x5 W' := hch.below (by omega) (fun b hb h => by rcases h with h | h; (· omega); exact h)
    obtain ⟨D9, hD9⟩ : ∃ D9, x5.heap.size = D9 := ⟨_, rfl⟩
    rw [hD9] at hK ⊢
    rw [hn, ← hn, List.take_length, hn] at hrow
    obtain ⟨pg, cg, rfl, _, _⟩ := hrow.isslice
    have hrg : Rd W' pg xs := Ro.rd (base := gb + 1) (cap := cg) (by unfold Ro; rw [hn]; exact hrow)
    have hrs : Rd W' p xs := fun j hj => by
      obtain ⟨b, off, e, hb, hc⟩ := hP j hj
      exact ⟨b, off, e, by have := hbW.size; omega, (World.cell?_of_block (w := W) (hbW.block b hb)).trans hc⟩
    have G : Hid (Sm W (.slice pv nv cv) P xs p c gb nb D9 pg cg W') := Lib.hid ⟨⟨l, d4.2, hnl, hil⟩, k0.of (hcb nb (by omega) (by omega)), by rw [hn]; exact k1.of (hcb (nb + 1) (by omega) (by omega)), k2.of (hcb (nb + 1 + 1) (by omega) (by omega)), by rw [hn]; exact d1, hrs, hrg, hK, hbW⟩
    clear hcb hbN hch hg hi hT d1 hrow d4 hK hnD' hrs hrg k0 k1 k2 k3 hmv5 hP5 hb5 hcl5 hc5 hmv4 hP4 hb4 hmv hP
    have hel : ((elems P).length : Int) = (n : Int) := by rw [← HX.out, hn]
    have h28 := fun y (h : Vm y (.slice pv nv cv) P) => vcount h
    rw [hel] at h28
    clear hel
    have c0 := G.out.sees
    rw [hn] at c0
    obtain ⟨c0, c1, c2⟩ := c0
    obtain ⟨w7, hw7⟩ : ∃ w7, W'.drew = w7 := ⟨_, rfl⟩
    have G : Hid (Sm W (.slice pv nv cv) P xs p c gb nb D9 pg cg W'.drew) := Lib.hid (G.out.later (Below.refl _ W').drew)
    clear hw7 w7
    gi_wp2_with fail
    refine wpIn_wide.2 ?_
    go_region_held3 (fun w => w.cell? ⟨nb, 0, none⟩ = some (.slice pv nv cv) ∧ w.cell? ⟨nb + 1, 0, none⟩ = some (.slice p n c) ∧ w.cell? ⟨gb, 0, none⟩ = some (.slice pg n cg)) (first | exact ⟨c0, c1, c2⟩ | (have h := G.out.sees; rw [HN.out] at h; exact h)) (first
      | (go_at_call 29; (with_reducible refine (h28 _ G.out.mv).mono ?_); rintro e y1 ⟨rfl, b⟩; replace G := Lib.hid (G.out.later b)))
    clear c0 c1 c2 h28
    gi_wp2_with fail
    gi_loopw [8] (fun iv w => ∃ i : Nat, i ≤ n ∧ iv = .int .i64 (i : Int) ∧ Sm W (.slice pv nv cv) P xs p c gb nb D9 pg cg w) (fun iv _ => n - (intOf iv).toNat)
    case atStart => exact ⟨0, Nat.zero_le _, rfl, G.out⟩
    case round =>
      obtain ⟨i, hin, rfl, g0⟩ := hrel
      have c1 := g0.sees.2.1
      rw [hn] at c1
      by_cases hlt : i < n
      · have hix : i < xs.length := by rw [hn]; exact hlt
        obtain ⟨b1, o1, rfl, _, a1⟩ := g0.rg i hix
        obtain ⟨b2, o2, rfl, _, a2⟩ := g0.rs i hix
        obtain ⟨x, hx⟩ : ∃ x, xs[i] = x := ⟨_, rfl⟩
        rw [hx] at a1 a2
        have hiP : i < (elems P).length := by rw [← HX.out]; exact hix
        have hxe : (elems P)[i] = x := by rw [← hx]; exact (List.getElem_of_eq HX.out hix).symm
        have h17 := fun y (h : Vm y (.slice pv nv cv) P) => vsel h (i : Int) (by omega)
        rw [sel_at hiP, hxe] at h17
        have hxm := mem_elems.1 (show x ∈ elems P by rw [← hxe]; exact List.getElem_mem _)
        have h16 := fun y (h : Vm y (.slice pv nv cv) P) => vrank h x (by omega)
        have hu := under_at (elems_srt P) hiP
        rw [hxe] at hu
        rw [hu] at h16
        have h14 := fun y (h : Vm y (.slice pv nv cv) P) => vhas h x
        rw [hxm.2] at h14
        have HS : ∀ y, Sm W (.slice pv nv cv) P xs (some ⟨b2, o2, none⟩) c gb nb D9 (some ⟨b1, o1, none⟩) cg y → y.cell? ⟨nb, 0, none⟩ = some (.slice pv nv cv) ∧ y.cell? ⟨nb + 1, 0, none⟩ = some (.slice (some ⟨b2, o2, none⟩) n c) ∧ y.cell? ⟨gb, 0, none⟩ = some (.slice (some ⟨b1, o1, none⟩) n cg) ∧ y.cell? ⟨b1, o1 + i, none⟩ = some (Value.int .i64 (x)) ∧ y.cell? ⟨b2, o2 + i, none⟩ = some (Value.int .i64 (x)) := fun y h => by
          have h1 := h.sees
          rw [hn] at h1
          have h2 := h.rg.at i hix
          have h3 := h.rs.at i hix
          rw [hx] at h2 h3
          exact ⟨h1.1, h1.2.1, h1.2.2, h2, h3⟩
        obtain ⟨s0, s1, s2, s3, s4⟩ := HS wr g0
        have HS := Lib.hid HS
        have G := Lib.hid (g0.later (Below.refl _ wr).drew)
        have hlt' : (i : Int) < (n : Int) := by omega
        clear g0 hx hxe hiP hxm hu a1 a2 c1
        gi_wp2_with fail
        refine wpIn_wide.2 ?_
        go_region_held3 (fun w => w.cell? ⟨nb, 0, none⟩ = some (.slice pv nv cv) ∧ w.cell? ⟨nb + 1, 0, none⟩ = some (.slice (some ⟨b2, o2, none⟩) n c) ∧ w.cell? ⟨gb, 0, none⟩ = some (.slice (some ⟨b1, o1, none⟩) n cg) ∧ w.cell? ⟨b1, o1 + i, none⟩ = some (Value.int .i64 (x)) ∧ w.cell? ⟨b2, o2 + i, none⟩ = some (Value.int .i64 (x))) (first | exact ⟨s0, s1, s2, s3, s4⟩ | exact HS.out _ G.out) (first
          | (go_at_call 73; (with_reducible refine (h17 _ G.out.mv).mono ?_); rintro e y1 ⟨rfl, b⟩; replace G := Lib.hid (G.out.later b))
          | (go_at_call 74; (with_reducible refine (h16 _ G.out.mv).mono ?_); rintro e y1 ⟨rfl, b⟩; replace G := Lib.hid (G.out.later b))
          | (go_at_call 75; (with_reducible refine (h14 _ G.out.mv).mono ?_); rintro e y1 ⟨rfl, b⟩; replace G := Lib.hid (G.out.later b)))
        clear s0 s1 s2 s3 s4 h17 h16 h14
        gi_wp2_with fail
        go_roundw
        case rel => exact ⟨i + 1, by omega, by go_num, G.out⟩
        case measure => simp [intOf]; omega
      · obtain rfl : i = n := by omega
        clear c1
        have h29 := fun y (h : Vm y (.slice pv nv cv) P) => vruns h
        rw [← HX.out] at h29
        have h33 := fun y (h : Rd y p xs) => refruns_any xs p i c y hn (by omega) (by rw [HX.out]; exact elems_srt P) (fun x hx => by
          have := (mem_elems.1 (by rw [← HX.out]; exact hx)).1
          exact inB_yes this.1 (by omega)) h
        obtain ⟨s0, s1, s2⟩ := g0.sees
        rw [hn] at s1
        have G := Lib.hid (g0.later (Below.refl _ wr).drew)
        clear g0 s2
        gi_wp2_with fail
        refine wpIn_wide.2 ?_
        go_region_held3 (fun w => w.cell? ⟨nb, 0, none⟩ = some (.slice pv nv cv) ∧ w.cell? ⟨nb + 1, 0, none⟩ = some (.slice p i c)) (first | exact ⟨s0, s1⟩ | (have h := G.out.sees; rw [HN.out] at h; exact ⟨h.1, h.2.1⟩)) (first
          | (go_at_call 76; (with_reducible refine (h29 _ G.out.mv).mono ?_); rintro e y1 ⟨va, rfl, ra, b⟩; replace G := Lib.hid (G.out.later b); have RA := Lib.hid ra; clear ra b)
          | (go_at_call 77; (with_reducible refine (h33 _ G.out.rs).mono ?_); rintro e y2 ⟨vb, rfl, rb, b⟩; replace G := Lib.hid (G.out.later b); have RB := Lib.hid (And.intro (HRow.later RA.out b) rb); clear rb b))
        clear s0 s1 h29 h33 RA
        obtain ⟨L, hL⟩ : ∃ L, ofL xs = L := ⟨_, rfl⟩
        rw [hL] at RB
        have hLn : L.length ≤ 65536 := by rw [← hL, ← HL.out, ofL_els hnl]; exact runs_len hnl
        clear hL
        obtain ⟨m, hm⟩ : ∃ m, L.length = m := ⟨_, rfl⟩
        obtain ⟨pa, ca, rfl, _, _⟩ := HRow.isslice RB.out.1
        obtain ⟨pb, cb, rfl, _, _⟩ := HRow.isslice RB.out.2
        rw [hm] at hLn ⊢
        gi_wp2_with fail
        gi_loopw [11] (fun iv w => ∃ k : Nat, k ≤ m ∧ iv = .int .i64 (k : Int) ∧ Sm W (.slice pv nv cv) P xs p c gb nb D9 pg cg w ∧ Rp w 0 (.slice pa L.length ca) L ∧ Rp w 0 (.slice pb L.length cb) L) (fun iv _ => m - (intOf iv).toNat)
        case atStart => exact ⟨0, Nat.zero_le _, rfl, G.out, RB.out.1, RB.out.2⟩
        case round =>
          clear G RB
          obtain ⟨k, hkm, rfl, g, ra, rb⟩ := hrel
          by_cases hlt : k < m
          · have hkL : k < L.length := by rw [hm]; exact hlt
            obtain ⟨ga, rfl, a0, a1⟩ := ra.at k hkL
            obtain ⟨gc, rfl, b0, b1⟩ := rb.at k hkL
            obtain ⟨⟨f, t⟩, hft⟩ : ∃ r, L[k] = r := ⟨_, rfl⟩
            rw [hft] at a0 a1 b0 b1
            have hlt' : (k : Int) < (m : Int) := by omega
            have a0q : ∀ q, (wr.drewN q).cell? ⟨ga, k * 2, none⟩ = some (Value.int .i64 (f)) := fun q => a0
            have a1q : ∀ q, (wr.drewN q).cell? ⟨ga, k * 2 + 1, none⟩ = some (Value.int .i64 (t)) := fun q => a1
            have b0q : ∀ q, (wr.drewN q).cell? ⟨gc, k * 2, none⟩ = some (Value.int .i64 (f)) := fun q => b0
            have b1q : ∀ q, (wr.drewN q).cell? ⟨gc, k * 2 + 1, none⟩ = some (Value.int .i64 (t)) := fun q => b1
            have hne43 := neq43 f t
            have HLT := Lib.hid hlt
            have GG := Lib.hid (And.intro g (And.intro ra rb))
            clear g ra rb hft hm
            gi_wp2_with fail
            gi_quiet (fail)
            gi_wp2_with fail
            go_roundw
            case rel => exact ⟨k + 1, HLT.out, by go_num, GG.out.1.later (below_drewN wr _), HRow.later GG.out.2.1 (below_drewN wr _), HRow.later GG.out.2.2 (below_drewN wr _)⟩
            case measure =>
              have := HLT.out
              simp [intOf]; omega
          · obtain rfl : k = m := by omega
            have krc : wr.cell? ⟨nb + 1 + 1, 0, none⟩ = some (.bool false) := g.kr.1
            have krf : wr.frozen? ⟨nb + 1 + 1, 0, none⟩ = false := g.kr.2
            have GG := Lib.hid g
            have hsz : nb + 1 + 1 < wr.heap.size := World.block_lt_of_cell? wr ⟨nb + 1 + 1, 0, none⟩ krc
            clear g ra rb hm
            gi_wp2_with fail
            refine post_markc (fn := Tryz.f52) (D := D9) (v := .bool true) ((Below.heap_setCell _ _ _ _ (by show D9 ≠ nb + 1 + 1; omega)).trans GG.out.kd) (fun w' hch hsz' => ?_)
            have hcw : w'.cell? ⟨nb + 1 + 1, 0, none⟩ = some (.bool true) :=
              (World.cell?_of_block (w := wr.setCell ⟨nb + 1 + 1, 0, none⟩ (.bool true)) (hch.block (nb + 1 + 1) (by simp [World.setCell]; omega) (by omega))).trans (World.cell?_setCell_same _ _ _ krc)
            refine ⟨?_, rfl, ?_⟩
            · rw [results_cell1 rfl]
              simp [go_sem, loadVar, hcw]
            · exact (GG.out.bel.setCell (by show W.heap.size ≤ nb + 1 + 1; omega) _).trans (hch.below (by have := GG.out.bel.size; simp [World.setCell]; omega) (fun b hb e => by omega))
end Go.Proofs.YtffpmmphpdkkbaaGreat
