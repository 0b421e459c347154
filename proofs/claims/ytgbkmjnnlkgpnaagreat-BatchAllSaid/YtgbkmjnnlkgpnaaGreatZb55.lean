/- The operations that came in, opened. Every input: BatchAll answers true and turns nothing that was there. Conditions: none. Every input: BatchMany answers true and turns nothing that was there. Conditions: none. Every input: BatchNone answers true and turns nothing that was there. Conditions: none. -/
import Derived.Test.YtgbkmjnnlkgpnaaGreatZb3
import Derived.Test.YtgbkmjnnlkgpnaaGreatZb43
import Derived.Test.YtgbkmjnnlkgpnaaGreatZb35
import Derived.ChangeSlices
import Derived.ChangeSame
import Derived.Deep.Slices
import Derived.Lib.SmallJoins
import Derived.Test.YtgbkmjnnlkgpnaaGreatZb54
import Derived.Test.YtgbkmjnnlkgpnaaGreatZb53
set_option maxRecDepth 100000
namespace Go.Proofs.YtgbkmjnnlkgpnaaGreat
open Go Go.Deep Go.ChangeShapes Go.WideShapes Go.ChangeAt Go.RowKit Co Co.S
/-- A row that can be read. -/
def InRw (W:World) (v:Value) (n k:Nat) (xs:List Value):Prop := xs.length = n * k /\ ∃ p cap, v = .slice p n cap /\ n <= cap /\ cap <= maxLen /\ (0 < n -> ∃ b off, p = some ⟨b, off, none⟩ /\ b < W.heap.size /\ ∀ j u, xs[j]? = some u -> W.cell? ⟨b, off + j, none⟩ = some u)
theorem flat_at {k:Nat} {α:Type}:∀ (L:List (α × List Value)), (∀ x ∈ L, x.2.length = k) -> ∀ i r, r < k -> (L.flatMap (·.2))[i * k + r]? = (L[i]?).bind (fun x => x.2[r]?)
  | [], _, i, r, _ => by simp
  | x::L, h, 0, r, hr => by
    have hx:x.2.length = k := h x (by simp);rw[List.flatMap_cons, Nat.zero_mul, Nat.zero_add, List.getElem?_append_left (by omega)];rfl
  | x::L, h, i + 1, r, hr => by
    have hx:x.2.length = k := h x (by simp);have e:(i + 1) * k + r = k + (i * k + r) :=(by rw[Nat.add_mul];omega);rw[List.flatMap_cons, e, List.getElem?_append_right (by omega), hx, Nat.add_sub_cancel_left, flat_at L (fun y hy => h y (by simp[hy])) i r hr];rfl
theorem flat_len {k:Nat} {α:Type}:∀ (L:List (α × List Value)), (∀ x ∈ L, x.2.length = k) -> (L.flatMap (·.2)).length = L.length * k
  | [], _ => by simp
  | x::L, h => by
    rw[List.flatMap_cons, List.length_append, h x (by simp), flat_len L (fun y hy => h y (by simp[hy])), List.length_cons, Nat.add_mul];omega
theorem flat_congr {α:Type} {f:α -> List Value}:∀ (L:List (α × List Value)), (∀ x ∈ L, x.2 = f x.1) -> L.flatMap (·.2) = (L.map (·.1)).flatMap f
  | [], _ => rfl
  | x::L, h => by
    rw[List.flatMap_cons, List.map_cons, List.flatMap_cons, h x (by simp), flat_congr L (fun y hy => h y (by simp[hy]))]
theorem trod5 {H:Type} {enc:TypeId × Value -> H} {P:Program} {w:World} {base:Nat} {spare:Nat -> Bool} {held:Bool} {t:TypeId} {f0 f1 f2 f3 f4:Field} {fuel:Nat} {cs:List Value} {x:DataW H × List MemPlace}
    (ht:P.underlying t = some (.struct #[f0, f1, f2, f3, f4])) (h:DataW.trod enc P w base spare held fuel t cs = some x) :
    ∃ y0 y1 y2 y3 y4 n, cs.length = P.cellsOf t /\ DataW.trod enc P w base spare held n f0.type ((cs.drop f0.offset).take (P.cellsOf f0.type)) = some y0 /\ DataW.trod enc P w base spare held n f1.type ((cs.drop f1.offset).take (P.cellsOf f1.type)) = some y1 /\
      DataW.trod enc P w base spare held n f2.type ((cs.drop f2.offset).take (P.cellsOf f2.type)) = some y2 /\ DataW.trod enc P w base spare held n f3.type ((cs.drop f3.offset).take (P.cellsOf f3.type)) = some y3 /\ DataW.trod enc P w base spare held n f4.type ((cs.drop f4.offset).take (P.cellsOf f4.type)) = some y4 := by
  obtain⟨xs, n, _, _, hl, hx, hf⟩ := DataW.trod_struct ht h
  match xs, hx, hf with
  | [y0, y1, y2, y3, y4], _, hf => exact⟨y0, y1, y2, y3, y4, n, hl, hf 0 f0 rfl, hf 1 f1 rfl, hf 2 f2 rfl, hf 3 f3 rfl, hf 4 f4 rfl⟩
section
variable {H:Type} {enc:TypeId × Value -> H} {W:World}
/-- A slice that came in, whatever its elements. -/
theorem open_row {t e:TypeId} {fuel k:Nat} {cs:List Value} {x:DataW H × List MemPlace} {α:Type} {P:α -> List Value -> Prop} (ht:Tryz.prog.underlying t = some (.slice e)) (hk:Tryz.prog.cellsOf e = k) (h0:0 < k)
    (h:DataW.trod enc Tryz.prog W 0 (fun _ => true) true fuel t cs = some x) (hone:∀ n cs' y, cs'.length = k -> DataW.trod enc Tryz.prog W 0 (fun _ => true) true n e cs' = some y -> ∃ u:α, P u cs') :
    ∃ v, cs = [v] /\ ∃ L:List (α × List Value), (∀ x ∈ L, P x.1 x.2 /\ x.2.length = k) /\ InRw W v L.length k (L.flatMap (·.2)) := by
  rcases Go.Deep.open_slice ht h with ⟨rfl, _⟩ | ⟨a, len, cap, m, n, D, Pl, rfl, hb, hl, hm, hmm, hx, hel⟩
  · exact⟨_, rfl, [], by simp, (Nat.zero_mul k).symm, none, 0, rfl, Nat.le_refl _, Nat.zero_le _, fun h => absurd h (Nat.lt_irrefl _)⟩
  · have hlm:len <= m := by rw[hmm];simpa using hl
    have each:∀ i, i < len -> ∃ x:α × List Value, P x.1 x.2 /\ x.2.length = k /\ ∀ r, r < k -> W.cell? ((a.add (i * k)).add r) = x.2[r]? := by
      intro i hi;obtain⟨cs', e1, e2⟩ := hel i (by omega);rw[hk] at e1;obtain⟨_, e3, e4⟩ := World.cells?_some e1;obtain⟨u, hu⟩ := hone _ _ _ e3 e2;exact⟨(u, cs'), hu, e3, e4⟩
    obtain⟨L, hL, hx⟩ := list_of len each
    have hmem:∀ x ∈ L, P x.1 x.2 /\ x.2.length = k := fun x hx' => by
      obtain⟨i, hi, rfl⟩ := List.getElem_of_mem hx';exact⟨(hx i hi).1, (hx i hi).2.1⟩
    refine⟨_, rfl, L, hmem, flat_len L (fun x hx => (hmem x hx).2), some a, cap, by rw[hL], by rw[hL];exact hl, hm, fun hn => ?_⟩;obtain⟨b, off, spot⟩ := a;have hz := (hx 0 hn).2.2 0 h0;have hlen0 := (hx 0 hn).2.1;rw[List.getElem?_eq_getElem (by omega)] at hz;have hspot:spot = none :=(by simpa [Addr.add] using World.cell?_spot hz);subst hspot;refine⟨b, off, rfl, ?_, fun j u hj => ?_⟩
    · have := World.block_lt_of_cell? _ _ hz
      simpa [Addr.add] using this
    · have hjl:j < L.length * k := by
        rw[<- flat_len L (fun x hx => (hmem x hx).2)];rcases Nat.lt_or_ge j (L.flatMap (·.2)).length with h|h
        · exact h
        · rw[List.getElem?_eq_none h] at hj;cases hj
      have hi:j / k < L.length := Nat.div_lt_of_lt_mul (by rw[Nat.mul_comm];exact hjl);have hr:j % k < k := Nat.mod_lt _ h0;have e:j / k * k + j % k = j :=(by rw[Nat.mul_comm];exact Nat.div_add_mod j k);have h1 := flat_at L (fun x hx => (hmem x hx).2) (j / k) (j % k) hr;rw[e, hj, List.getElem?_eq_getElem hi] at h1;have h2 := (hx (j / k) hi).2.2 (j % k) hr;rw[add_none, add_none, Nat.add_assoc, e] at h2;rw[h2];exact h1.symm
theorem trod3 {fuel:Nat} {cs:List Value} {x:DataW H × List MemPlace} {t:TypeId} {f0 f1 f2:Field} (ht:Tryz.prog.underlying t = some (.struct #[f0, f1, f2])) (h:DataW.trod enc Tryz.prog W 0 (fun _ => true) true fuel t cs = some x) :
    ∃ y0 y1 y2 n, cs.length = Tryz.prog.cellsOf t /\ DataW.trod enc Tryz.prog W 0 (fun _ => true) true n f0.type ((cs.drop f0.offset).take (Tryz.prog.cellsOf f0.type)) = some y0 /\ DataW.trod enc Tryz.prog W 0 (fun _ => true) true n f1.type ((cs.drop f1.offset).take (Tryz.prog.cellsOf f1.type)) = some y1 /\
      DataW.trod enc Tryz.prog W 0 (fun _ => true) true n f2.type ((cs.drop f2.offset).take (Tryz.prog.cellsOf f2.type)) = some y2 := by
  obtain⟨xs, n, _, _, hl, hx, hf⟩ := DataW.trod_struct ht h
  match xs, hx, hf with
  | [y0, y1, y2], _, hf => exact⟨y0, y1, y2, n, hl, hf 0 f0 rfl, hf 1 f1 rfl, hf 2 f2 rfl⟩
theorem c9:Tryz.prog.cellsOf 9 = 1 := by kernel_rfl
theorem c3:Tryz.prog.cellsOf 3 = 1 := by kernel_rfl
theorem c2:Tryz.prog.cellsOf 2 = 1 := by kernel_rfl
theorem c56:Tryz.prog.cellsOf 45 = 1 := by kernel_rfl
theorem c85:Tryz.prog.cellsOf 47 = 5 := by kernel_rfl
theorem c26:Tryz.prog.cellsOf 42 = 3 := by kernel_rfl
theorem open_vals {fuel:Nat} {cs:List Value} {x:DataW H × List MemPlace} (h:DataW.trod enc Tryz.prog W 0 (fun _ => true) true fuel 45 cs = some x):∃ v l, cs = [v] /\ InV (fun q => q < W.heap.size) W v l /\ ∀ x ∈ l, x.2.2.size <= maxLen := by
  obtain⟨v, rfl, L, h1, h2⟩ := open_row (α := T3) (P := fun u cs' => cs' = [.int .i64 u.1, .int .i64 u.2.1, .string u.2.2] /\ u.2.2.size <= maxLen) Tryz.underlying45 c26 (by decide) h (fun n cs' y hl hy => by
    obtain⟨y0, y1, y2, m, _, t0, t1, t2⟩ := trod3 Tryz.underlying42 hy
    match cs', hl with
    | [x0, x1, x2], _ =>
      simp only[c9, c3, c2, List.drop_zero, List.drop_succ_cons, List.take_succ_cons, List.take_zero] at t0 t1 t2;obtain⟨k, e0, _, _⟩ := DataW.trod_int Tryz.underlying3 t0;obtain⟨n1, e1, _, _⟩ := DataW.trod_int Tryz.underlying2 t1;obtain⟨s, e2, _, hs⟩ := DataW.trod_string Tryz.underlying9 t2;simp only[List.cons.injEq, and_true] at e0 e1 e2;subst e0 e1 e2;exact⟨(k, n1, s), rfl, hs⟩)
  refine⟨v, L.map (·.1), rfl, ?_, fun x hx => ?_⟩
  · obtain⟨hl, p, cap, e, c1, c2, c3⟩ := h2
    refine⟨p, cap, by rw[List.length_map];exact e, by rw[List.length_map];exact c1, c2, fun h0 => ?_⟩;obtain⟨b, off, e2, hb, hc⟩ := c3 (by rw[List.length_map] at h0;exact h0);refine⟨b, off, e2, hb, hb, ?_⟩
    have:cells3 (L.map (·.1)) = L.flatMap (·.2) := by
      rw[flat_congr (f := fun u:T3 => [.int .i64 u.1, .int .i64 u.2.1, .string u.2.2]) L (fun x hx => (h1 x hx).1.1)];rfl
    rw[this];exact hc
  · obtain⟨y, hy, rfl⟩ := List.mem_map.1 hx
    exact (h1 y hy).1.2
theorem open_ops {v:Value} {d:DataW H} {p:List MemPlace} (hv:∃ a l c, v = .slice a l c) (h:DataW.Trod enc Tryz.prog W 0 (fun _ => true) true 22 v d p):∃ (q:Option Addr) (L:List OpX) (c:Nat), v = .slice q L.length c /\ OpsR W q L /\ L.length <= maxLen /\ ∀ o ∈ L, F64 o.id := by
  obtain⟨a0, len0, cap0, rfl⟩ := hv;obtain⟨fuel, hf⟩ := h
  obtain⟨v, e, L, h1, h2⟩ := open_row (α := OpX × Value) (P := fun u cs' => cs' = opC u.1 u.2 /\ InV (fun q => q < W.heap.size) W u.2 u.1.vals /\ F64 u.1.id /\ u.1.tbl.size <= maxLen /\ u.1.col.size <= maxLen /\ ∀ x ∈ u.1.vals, x.2.2.size <= maxLen) Tryz.underlying22 c85 (by decide) hf (fun n cs' y hl hy => by
    obtain⟨y0, y1, y2, y3, y4, m, _, t0, t1, t2, t3, t4⟩ := trod5 Tryz.underlying47 hy
    match cs', hl with
    | [x0, x1, x2, x3, x4], _ =>
      simp only[c9, c3, c56, List.drop_zero, List.drop_succ_cons, List.take_succ_cons, List.take_zero] at t0 t1 t2 t3 t4;obtain⟨k, e0, _, _⟩ := DataW.trod_int Tryz.underlying3 t0;obtain⟨tb, e1, _, ht⟩ := DataW.trod_string Tryz.underlying9 t1;obtain⟨i, e2, _, hi⟩ := DataW.trod_int Tryz.underlying3 t2;obtain⟨s, e3, _, hs⟩ := DataW.trod_string Tryz.underlying9 t3;obtain⟨vv, l, e4, hV, hl⟩ := open_vals t4;simp only[List.cons.injEq, and_true] at e0 e1 e2 e3 e4;subst e0 e1 e2 e3 e4;exact⟨(⟨k, tb, i, s, l⟩, x4), rfl, hV, bounds_i64 hi, ht, hs, hl⟩)
  simp[Value.cells] at e;subst e;obtain⟨hl, q, cap, e, c1, c2, c3⟩ := h2;refine⟨q, L.map (fun x => x.1.1), cap, by rw[List.length_map];exact e, fun j hj => ?_, by rw[List.length_map];omega, fun o ho => ?_⟩
  · rw[List.length_map] at hj
    obtain⟨b, off, e2, hb, hc⟩ := c3 (by omega);obtain⟨⟨e3, hV, hi, ht, hs, hz⟩, hl4⟩ := h1 L[j] (List.getElem_mem _);have hat :=(fun r hr => flat_at L (fun x hx => (h1 x hx).2) j r hr);simp only[List.getElem?_eq_getElem hj, Option.bind_some, e3] at hat;rw[List.getElem_map];exact⟨b, off, L[j].1.2, e2, hb, hc _ _ (hat 0 (by decide)), hc _ _ (hat 1 (by decide)), hc _ _ (hat 2 (by decide)), hc _ _ (hat 3 (by decide)), hc _ _ (hat 4 (by decide)), hV, ht, hs, hz⟩
  · obtain⟨x, hx, rfl⟩ := List.mem_map.1 ho
    exact (h1 x hx).1.2.2.1
end
end Go.Proofs.YtgbkmjnnlkgpnaaGreat
namespace Go.Proofs.YtgbkmjnnlkgpnaaGreat
open Go Go.ChangeShapes Go.WideShapes Go.ChangeAt Go.RowKit
open Go.ChangeMaps (open_string shut_string)

theorem batchAll_lifted (os:Os) (started:os.Started) (H:Type) (enc:TypeId × Value -> H) :
    ReturnsInHanded {} Tryz.checked os 3 .any (Rows.batchAllSpec.pre6 enc Tryz.prog Tryz.f3 Rows.batchAllRow.domain false) (Rows.batchAllSpec.post enc Tryz.prog Tryz.f3 false true false false) := by
  refine returnsInHanded_of_change (C := Tryz.checked) own started (by kernel_rfl) Tryz.func3
    (ChangeSpec.witness6 (enc := enc) (C := Tryz.checked) false ⟨#[], #[.slice none 0 0, .slice none 0 0], []⟩ 8 (by kernel_rfl) (by kernel_rfl) (by kernel_rfl) (by kernel_rfl)) ?_
  intro W base args ds gs before hval0 hW _ _;have hval:∀ (j:Nat) t v, Tryz.f3.params[j]? = some t -> args[j]? = some v -> Value.okWide Tryz.prog W .any base t v := hval0;have hW' := hW;obtain⟨p, q, hA0, hV, rfl, hfz, hnd⟩ := hW;have hA:DataW.TrodAll enc Tryz.prog W 0 (fun _ => true) true Tryz.f3.params.toList args.toList ds p := hA0;rw[Tryz.params3] at hA hval;obtain⟨v0, vs0, d0, ds0, p0, q0, hargs, rfl, rfl, h0, r0⟩ := trodAll_cons hA;obtain⟨v1, vs1, d1, ds1, p1, q1, rfl, rfl, rfl, h1, r1⟩ := trodAll_cons r0;obtain⟨rfl, rfl, rfl⟩ := trodAll_nil r1;obtain rfl:args = #[v0, v1] :=(by cases args;simp_all);obtain⟨rfl, rfl⟩ := trodVars_none hV;have k0 := h0;have lt0:∀ x ∈ p0, x.block < W.heap.size :=(by obtain⟨m, hm⟩ := k0;exact DataW.trod_lt m _ _ _ hm);obtain⟨q0x, L0, c0, rfl, s0, hl0, hi0⟩ := open_ops (okWide_slice Tryz.underlying22 (hval 0 22 v0 rfl rfl)) h0;have k1 := h1;have lt1:∀ x ∈ p1, x.block < W.heap.size :=(by obtain⟨m, hm⟩ := k1;exact DataW.trod_lt m _ _ _ hm);obtain⟨q1x, L1, c1, rfl, s1, hl1, hi1⟩ := open_ops (okWide_slice Tryz.underlying22 (hval 1 22 v1 rfl rfl)) h1;clear hA0 hval0;refine (ball_law W s0 hl0 hi0 s1 hl1 hi1).mono fun e W' ⟨he, bel⟩ => ?_
  subst he;exact⟨_, rfl, _, _, _, [], _, [], hW', trodAll_mk1 (shut_bool Tryz.underlying4 _), (trodAll_cons_mk (Below.trod laidOut (by kernel_rfl) (of_decide_eq_true (by kernel_rfl)) k0 bel lt0) (trodAll_cons_mk (Below.trod laidOut (by kernel_rfl) (of_decide_eq_true (by kernel_rfl)) k1 bel lt1) trodAll_mk0)), rfl, bel.frame _, fun h => by cases h⟩

theorem batchAll_holds:Rows.BatchAllSaid :=
  OpenClaim.holds_of_wide 3 Tryz.f3 rfl rfl rfl rfl rfl rfl rfl ⟨rfl, rfl, rfl, rfl, rfl⟩ rfl rfl rfl rfl rfl (by kernel_rfl) Tryz.func3 (by kernel_rfl)
    (of_decide_eq_true (by kernel_rfl)) (by unfold Func.isWrapper;first | (rw[if_pos (by decide +kernel)];kernel_rfl) | (rw[if_neg (by decide +kernel)];exact⟨rfl, rfl⟩))
    (fun os started H enc _ => batchAll_lifted os started H enc)
end Go.Proofs.YtgbkmjnnlkgpnaaGreat
namespace Go.Proofs.YtgbkmjnnlkgpnaaGreat
open Go Go.ChangeShapes Go.WideShapes Go.ChangeAt Go.RowKit
open Go.ChangeMaps (open_string shut_string)

theorem batchMany_lifted (os:Os) (started:os.Started) (H:Type) (enc:TypeId × Value -> H) :
    ReturnsInHanded {} Tryz.checked os 4 .any (Rows.batchManySpec.pre6 enc Tryz.prog Tryz.f4 Rows.batchManyRow.domain false) (Rows.batchManySpec.post enc Tryz.prog Tryz.f4 false true false false) := by
  refine returnsInHanded_of_change (C := Tryz.checked) own started (by kernel_rfl) Tryz.func4
    (ChangeSpec.witness6 (enc := enc) (C := Tryz.checked) false ⟨#[], #[.int .i64 0], []⟩ 8 (by kernel_rfl) (by kernel_rfl) (by kernel_rfl) (by kernel_rfl)) ?_
  intro W base args ds gs before hval0 hW _ _;have hval:∀ (j:Nat) t v, Tryz.f4.params[j]? = some t -> args[j]? = some v -> Value.okWide Tryz.prog W .any base t v := hval0;have hW' := hW;obtain⟨p, q, hA0, hV, rfl, hfz, hnd⟩ := hW;have hA:DataW.TrodAll enc Tryz.prog W 0 (fun _ => true) true Tryz.f4.params.toList args.toList ds p := hA0;rw[Tryz.params4] at hA hval;obtain⟨v0, vs0, d0, ds0, p0, q0, hargs, rfl, rfl, h0, r0⟩ := trodAll_cons hA;obtain⟨rfl, rfl, rfl⟩ := trodAll_nil r0;obtain rfl:args = #[v0] :=(by cases args;simp_all);obtain⟨rfl, rfl⟩ := trodVars_none hV;have k0 := h0;have lt0:∀ x ∈ p0, x.block < W.heap.size :=(by obtain⟨m, hm⟩ := k0;exact DataW.trod_lt m _ _ _ hm);obtain⟨a0, rfl, _, _, w0⟩ := open_int Tryz.underlying3 (hval 0 3 v0 rfl rfl) h0;clear hA0 hval0;refine (bmany_law a0 W).mono fun e W' ⟨he, bel⟩ => ?_
  subst he;exact⟨_, rfl, _, _, _, [], _, [], hW', trodAll_mk1 (shut_bool Tryz.underlying4 _), (trodAll_cons_mk (Below.trod laidOut (by kernel_rfl) (of_decide_eq_true (by kernel_rfl)) k0 bel lt0) trodAll_mk0), rfl, bel.frame _, fun h => by cases h⟩

theorem batchMany_holds:Rows.BatchManySaid :=
  OpenClaim.holds_of_wide 4 Tryz.f4 rfl rfl rfl rfl rfl rfl rfl ⟨rfl, rfl, rfl, rfl, rfl⟩ rfl rfl rfl rfl rfl (by kernel_rfl) Tryz.func4 (by kernel_rfl)
    (of_decide_eq_true (by kernel_rfl)) (by unfold Func.isWrapper;first | (rw[if_pos (by decide +kernel)];kernel_rfl) | (rw[if_neg (by decide +kernel)];exact⟨rfl, rfl⟩))
    (fun os started H enc _ => batchMany_lifted os started H enc)
end Go.Proofs.YtgbkmjnnlkgpnaaGreat
namespace Go.Proofs.YtgbkmjnnlkgpnaaGreat
open Go Go.ChangeShapes Go.WideShapes Go.ChangeAt Go.RowKit
open Go.ChangeMaps (open_string shut_string)

theorem batchNone_lifted (os:Os) (started:os.Started) (H:Type) (enc:TypeId × Value -> H) :
    ReturnsInHanded {} Tryz.checked os 5 .any (Rows.batchNoneSpec.pre6 enc Tryz.prog Tryz.f5 Rows.batchNoneRow.domain false) (Rows.batchNoneSpec.post enc Tryz.prog Tryz.f5 false true false false) := by
  refine returnsInHanded_of_change (C := Tryz.checked) own started (by kernel_rfl) Tryz.func5
    (ChangeSpec.witness6 (enc := enc) (C := Tryz.checked) false ⟨#[], #[], []⟩ 8 (by kernel_rfl) (by kernel_rfl) (by kernel_rfl) (by kernel_rfl)) ?_
  intro W base args ds gs before hval0 hW _ _;have hval:∀ (j:Nat) t v, Tryz.f5.params[j]? = some t -> args[j]? = some v -> Value.okWide Tryz.prog W .any base t v := hval0;have hW' := hW;obtain⟨p, q, hA0, hV, rfl, hfz, hnd⟩ := hW;have hA:DataW.TrodAll enc Tryz.prog W 0 (fun _ => true) true Tryz.f5.params.toList args.toList ds p := hA0;rw[Tryz.params5] at hA hval;obtain⟨hargs, rfl, rfl⟩ := trodAll_nil hA;obtain rfl:args = #[] :=(by cases args;simp_all);obtain⟨rfl, rfl⟩ := trodVars_none hV;clear hA0 hval0;refine (bnone_law W).mono fun e W' ⟨he, bel⟩ => ?_
  subst he;exact⟨_, rfl, _, _, _, [], _, [], hW', trodAll_mk1 (shut_bool Tryz.underlying4 _), trodAll_mk0, rfl, bel.frame _, fun h => by cases h⟩

theorem batchNone_holds:Rows.BatchNoneSaid :=
  OpenClaim.holds_of_wide 5 Tryz.f5 rfl rfl rfl rfl rfl rfl rfl ⟨rfl, rfl, rfl, rfl, rfl⟩ rfl rfl rfl rfl rfl (by kernel_rfl) Tryz.func5 (by kernel_rfl)
    (of_decide_eq_true (by kernel_rfl)) (by unfold Func.isWrapper;first | (rw[if_pos (by decide +kernel)];kernel_rfl) | (rw[if_neg (by decide +kernel)];exact⟨rfl, rfl⟩))
    (fun os started H enc _ => batchNone_lifted os started H enc)
