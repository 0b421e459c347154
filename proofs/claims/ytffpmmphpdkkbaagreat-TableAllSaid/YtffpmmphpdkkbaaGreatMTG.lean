/- A table turned: cells of its block, the map, a column. may. -/
import Derived.Test.YtffpmmphpdkkbaaGreatMTE
namespace Go.Proofs.YtffpmmphpdkkbaaGreat
open Go Go.RowKit Go.Proofs Co Co.S

/-- A row of values that can be read, in a block of S. -/
def InV (S : Nat → Prop) (W : World) (v : Value) (l : List T3) : Prop := ∃ p cap, v = .slice p l.length cap ∧ l.length ≤ cap ∧ cap ≤ maxLen ∧ (0 < l.length → ∃ b off, p = some ⟨b, off, none⟩ ∧ b < W.heap.size ∧ S b ∧ ∀ j u, (cells3 l)[j]? = some u → W.cell? ⟨b, off + j, none⟩ = some u)
section
variable {S T1 : Nat → Prop} {W W' : World} {v : Value} {l : List T3}
theorem InV.tn (h : InV S W v l) (hk : Tn T1 W W') (hs : ∀ b, S b → ¬ T1 b) : InV S W' v l := by
  obtain ⟨p, cap, h1, h2, h3, h4⟩ := h
  refine ⟨p, cap, h1, h2, h3, fun h0 => ?_⟩
  obtain ⟨b, off, h5, h6, h7, h8⟩ := h4 h0
  exact ⟨b, off, h5, Nat.lt_of_lt_of_le h6 hk.size, h7, fun j u hj => (World.cell?_of_block (w := W) (hk.chg.block b h6 (hs b h7))).trans (h8 j u hj)⟩
theorem InV.later (h : InV S W v l) (hb : Below W.heap.size W W') : InV S W' v l := h.tn (T1 := fun _ => False) (Tn.of_below hb) (fun _ _ h => h)
theorem InV.mono (h : InV S W v l) (hs : ∀ b, b < W.heap.size → S b → T1 b) : InV T1 W v l := by
  obtain ⟨p, cap, h1, h2, h3, h4⟩ := h
  refine ⟨p, cap, h1, h2, h3, fun h0 => ?_⟩
  obtain ⟨b, off, h5, h6, h7, h8⟩ := h4 h0
  exact ⟨b, off, h5, h6, hs b h6 h7, h8⟩
theorem InV.slice (h : InV S W v l) : ∃ p cap, v = .slice p l.length cap ∧ l.length ≤ cap ∧ cap ≤ maxLen := by
  obtain ⟨p, cap, h1, h2, h3, h4⟩ := h
  exact ⟨p, cap, h1, h2, h3⟩
theorem InV.val {p : Option Addr} {n cap j : Nat} (h : InV S W (.slice p n cap) l) (hj : j < l.length) : ∃ b off, p = some ⟨b, off, none⟩ ∧ b < W.heap.size ∧ W.cell? ⟨b, off + j * 3, none⟩ = some (.int .i64 l[j].1) ∧ W.cell? ⟨b, off + j * 3 + 1, none⟩ = some (.int .i64 l[j].2.1) ∧ W.cell? ⟨b, off + j * 3 + 2, none⟩ = some (.string l[j].2.2) := by
  obtain ⟨p', cap', h1, h2, h3, h4⟩ := h
  cases h1
  obtain ⟨b, off, h5, h6, h7, h8⟩ := h4 (by omega)
  obtain ⟨c0, c1, c2⟩ := cells3_at l j hj
  exact ⟨b, off, h5, h6, h8 _ _ c0, h8 _ _ c1, h8 _ _ c2⟩
theorem InV.of_row {base : Nat} {n : Nat} (h : HRow W base 53 3 v n (cells3 l)) (hn : l.length = n) : InV (fun b => v.ownBlock = some b) W v l := by
  subst hn
  rcases h.2 with ⟨rfl, h0⟩ | ⟨g, cap, cur, rfl, _, hg, h1, h2, _, _⟩
  · exact ⟨none, 0, by rw [h0], by omega, Nat.zero_le _, fun h => by omega⟩
  · exact ⟨_, cap, rfl, h1, h2, fun _ => ⟨g, 0, rfl, lt_of_heap hg, rfl, fun j u hj => by rw [Nat.zero_add]; exact h.cell hj⟩⟩
end

def updF {α : Type} (f : Nat → α) (k : Nat) (x : α) : Nat → α := fun j => if j = k then x else f j
theorem updF_same {α : Type} (f : Nat → α) (k : Nat) (x : α) : updF f k x k = x := if_pos rfl
theorem updF_other {α : Type} (f : Nat → α) {k j : Nat} (x : α) (h : j ≠ k) : updF f k x j = f j := if_neg h
section
variable {W W' : World} {tb next : Nat} {t : T} {i : In} {lab lab' : Nat → Nat}
theorem TbR.relab (h : TbR W tb t next i lab) (he : ∀ b, lab b ≠ 0 → lab' b = lab b) (hlt : ∀ b, lab' b ≠ 0 → b < W.heap.size) : TbR W tb t next i lab' := by
  have e : ∀ b q, lab b = q → q ≠ 0 → lab' b = q := fun b q h1 h2 => by rw [he b (by rw [h1]; exact h2), h1]
  exact ⟨h.form, h.cols, h.col, h.place, h.pm, h.free, h.gone, h.late, e _ _ h.l1 (by decide), fun b hb => e _ _ (h.l2 b hb) (by decide), fun b hb => e _ _ (h.l3 b hb) (by decide), fun b hb => e _ _ (h.l4 b hb) (by decide), fun k hk => e _ _ (h.l6 k hk) (by omega), fun k hk b hb => e _ _ (h.l7 k hk b hb) (by omega), hlt⟩
def addL1 (lab : Nat → Nat) (o : Option Nat) (q : Nat) : Nat → Nat := fun b => if o = some b then q else lab b
theorem addL1_ext {o : Option Nat} {q : Nat} (h : ∀ b, o = some b → lab b = q ∨ W.heap.size ≤ b) : Ext W lab (addL1 lab o q) := fun b hb => by
  unfold addL1
  split
  · rename_i e
    rcases h b e with h1 | h1
    · exact h1.symm
    · omega
  · rfl
theorem addL1_eq {o : Option Nat} {q : Nat} (h : ∀ b, lab b ≠ 0 → b < W.heap.size) (he : Ext W lab (addL1 lab o q)) : ∀ b, lab b ≠ 0 → addL1 lab o q b = lab b := fun b hb => he b (h b hb)
theorem addL1_lt {o : Option Nat} {q : Nat} (h : ∀ b, lab b ≠ 0 → b < W.heap.size) (hs : W.heap.size ≤ W'.heap.size) (ho : ∀ b, o = some b → b < W'.heap.size) : ∀ b, addL1 lab o q b ≠ 0 → b < W'.heap.size := fun b hb => by
  unfold addL1 at hb
  split at hb
  · rename_i e; exact ho b e
  · exact Nat.lt_of_lt_of_le (h b hb) hs
theorem addL1_own {o : Option Nat} {q : Nat} : ∀ b, o = some b → addL1 lab o q b = q := fun _ hb => if_pos hb

/-- A column turned. -/
theorem TbM.setcol (h : TbM W tb t next i lab) {k : Nat} (hk : k < t.cols.length) {l' : List T3} {v' : Value} (hcol : Col (i.cb k) t.cols[k].kd l' v' W') (hchg : Chg (fun b => b = i.cb k ∨ (i.v k).ownBlock = some b) W W') (hv : ∀ q, v'.ownBlock = some q → (i.v k).ownBlock = some q ∨ W.heap.size ≤ q) :
    ∃ lab', TbM W' tb t next { i with cl := updF i.cl k l', v := updF i.v k v' } lab' ∧ Ext W lab lab' ∧ Tn (fun b => lab b ≠ 0) W W' := by
  have hty := (h.col k hk).ty
  have htn : Tn (fun b => b = i.cb k ∨ (i.v k).ownBlock = some b) W W' := Tn.of_chg hchg (fun b _ hb => .inl (by
    rcases hb with rfl | hb
    · exact hty.1
    · exact hty.2 b hb))
  have hlab : ∀ b, (b = i.cb k ∨ (i.v k).ownBlock = some b) → lab b = 6 + 2 * k ∨ lab b = 7 + 2 * k := fun b hb => by
    rcases hb with rfl | hb
    · exact .inl (h.l6 k hk)
    · exact .inr (h.l7 k hk b hb)
  have hne : ∀ b q, lab b = q → q ≠ 6 + 2 * k → q ≠ 7 + 2 * k → ¬ (b = i.cb k ∨ (i.v k).ownBlock = some b) := fun b q e h1 h2 hb => by
    rcases hlab b hb with e2 | e2
    · exact h1 (by rw [← e, e2])
    · exact h2 (by rw [← e, e2])
  have hkeep : ∀ b q, lab b = q → q ≠ 0 → q ≠ 6 + 2 * k → q ≠ 7 + 2 * k → W'.heap[b]? = W.heap[b]? := fun b q e h0 h1 h2 => hchg.block b (h.lt b (by rw [e]; exact h0)) (hne b q e h1 h2)
  have hext : Ext W lab (addL1 lab v'.ownBlock (7 + 2 * k)) := addL1_ext (fun b hb => (hv b hb).imp (h.l7 k hk b) id)
  have heq := addL1_eq h.lt hext
  have e : ∀ b q, lab b = q → q ≠ 0 → addL1 lab v'.ownBlock (7 + 2 * k) b = q := fun b q h1 h2 => by rw [heq b (by rw [h1]; exact h2), h1]
  refine ⟨addL1 lab v'.ownBlock (7 + 2 * k), ⟨⟨h.form.tn htn, h.cols.tn htn rfl, fun j hj => ?_, h.place.of (fun b hb => hkeep b 2 (h.l2 b hb) (by decide) (by omega) (by omega)), h.pm, h.free.of (fun b hb => hkeep b 3 (h.l3 b hb) (by decide) (by omega) (by omega)), h.gone.tn htn,
    h.late.of (fun b hb => hkeep b 4 (h.l4 b hb) (by decide) (by omega) (by omega)), e _ _ h.l1 (by decide), fun b hb => e _ _ (h.l2 b hb) (by decide), fun b hb => e _ _ (h.l3 b hb) (by decide), fun b hb => e _ _ (h.l4 b hb) (by decide), fun j hj => e _ _ (h.l6 j hj) (by omega), fun j hj b hb => ?_, addL1_lt h.lt hchg.size hcol.rlt⟩, (hkeep tb 1 h.l1 (by decide) (by omega) (by omega)).trans h.box⟩, hext, htn.mono (fun b _ hb => by rcases hlab b hb with h1 | h1 <;> omega)⟩
  · show Col (i.cb j) t.cols[j].kd (updF i.cl k l' j) (updF i.v k v' j) W'
    by_cases ej : j = k
    · subst ej
      rw [updF_same, updF_same]
      exact hcol
    · rw [updF_other _ _ ej, updF_other _ _ ej]
      exact (h.col j hj).tn htn (hne _ _ (h.l6 j hj) (by omega) (by omega)) (fun b hb => hne _ _ (h.l7 j hj b hb) (by omega) (by omega))
  · have hb : (updF i.v k v' j).ownBlock = some b := hb
    by_cases ej : j = k
    · subst ej
      rw [updF_same] at hb
      exact addL1_own b hb
    · rw [updF_other _ _ ej] at hb
      exact e _ _ (h.l7 j hj b hb) (by omega)
/-- The map is made. -/
theorem TbM.setmap (h : TbM W tb t next i lab) (hn : i.np = 0) (hf : ∀ x, i.f x = none) :
    ∃ lab', TbM ((W.alloc (.map #[] 0)).setCell ⟨tb, 5, none⟩ (.map (some W.heap.size))) tb t next { i with pv := .map (some W.heap.size), m := 0 } lab' ∧ Ext W lab lab' ∧ Tn (fun b => lab b ≠ 0) W ((W.alloc (.map #[] 0)).setCell ⟨tb, 5, none⟩ (.map (some W.heap.size))) := by
  have hb := below_alloc W (.map #[] 0)
  have h1 := h.later hb
  have htn := Tn.own h1 5 (.map (some W.heap.size))
  have hext : Ext W lab (addL1 lab (some W.heap.size) 2) := addL1_ext (fun b hb => .inr (by cases hb; exact Nat.le_refl _))
  have heq := addL1_eq h.lt hext
  have h2 : TbR ((W.alloc (.map #[] 0)).setCell ⟨tb, 5, none⟩ (.map (some W.heap.size))) tb t next i (addL1 lab (some W.heap.size) 2) := (h1.toTbR.tn htn (fun b hb => .inr hb)).relab heq (addL1_lt h.lt (by simp [World.setCell]) (fun b hb => by cases hb; simp [World.setCell]))
  have hne : W.heap.size ≠ tb := by have := h.tlt; omega
  refine ⟨_, ⟨⟨h2.form, h2.cols, h2.col, ?_, Nat.zero_le _, h2.free, h2.gone, h2.late, h2.l1, fun b hb => ?_, h2.l3, h2.l4, h2.l6, h2.l7, h2.lt⟩, heap_setCell_same _ tb 5 _ _ _ h1.box⟩, hext, (Tn.of_below hb).trans htn (S := fun _ => False) (fun _ _ h => h.elim) (fun b _ hb => by show lab b ≠ 0; rw [show lab b = 1 from hb]; decide)⟩
  · refine .inr ⟨W.heap.size, rfl, ?_⟩
    show Mi _ W.heap.size i.f i.np 0
    rw [hn, show i.f = fun _ => none from funext hf]
    exact (Mi.made W).of (heap_setCell_other _ ⟨tb, 5, none⟩ _ _ hne)
  · cases hb
    exact addL1_own _ rfl
/-- The list of free places is cut. -/
theorem TbM.setfree (h : TbM W tb t next i lab) {g n c : Nat} {fr : List Nat} {p : Nat} (hfv : i.fv = .slice (some ⟨g, 0, none⟩) n c) (hfr : i.free = fr ++ [p]) (hn : fr.length + 1 = n) :
    TbM (W.setCell ⟨tb, 6, none⟩ (.slice (some ⟨g, 0, none⟩) fr.length c)) tb t next { i with fv := .slice (some ⟨g, 0, none⟩) fr.length c, free := fr } lab ∧ Tn (fun b => lab b ≠ 0) W (W.setCell ⟨tb, 6, none⟩ (.slice (some ⟨g, 0, none⟩) fr.length c)) := by
  have htn := Tn.own h 6 (.slice (some ⟨g, 0, none⟩) fr.length c)
  have h2 := h.toTbR.tn htn (fun b hb => .inr hb)
  have hr := h2.free
  rw [hfv, hfr] at hr
  refine ⟨⟨⟨h2.form, h2.cols, h2.col, h2.place, h2.pm, ?_, h2.gone, h2.late, h2.l1, h2.l2, fun b hb => h2.l3 b (by rw [hfv]; exact hb), h2.l4, h2.l6, h2.l7, h2.lt⟩, heap_setCell_same _ tb 6 _ _ _ h.box⟩, htn.mono (fun b _ hb => by show lab b ≠ 0; rw [show lab b = 1 from hb]; decide)⟩
  have hlen : (fr ++ [p]).length = n := by simp; exact hn
  rw [hlen] at hr
  obtain ⟨cur, h3, h4, h5, h6, h7, h8⟩ := hr.form
  refine ⟨by simp, .inr ⟨g, c, cur, rfl, Nat.zero_le _, h4, by show fr.length ≤ c; omega, h6, h7, ?_⟩⟩
  show cur.toList.take (fr.length * 1) = fr.map ivn
  have : cur.toList.take (fr.length * 1) = (cur.toList.take (n * 1)).take (fr.length * 1) := by rw [List.take_take]; congr 1; omega
  rw [this, h8]
  simp
/-- A number's place is told to the map. -/
theorem TbM.setput (h : TbM W tb t next i lab) {b : Nat} (hpv : i.pv = .map (some b)) {x : Int} {p : Nat} (hx : F64 x) (hp : p ≤ 1000000) (hf : i.f x = none) (hm : i.m + 1 ≤ next) (hn : next ≤ 1000000) :
    ∃ w', (Instr.mapUpdate 78 (.map (some b)) (.int .i64 x) (.int .i64 (p : Int))).run Tryz.prog W = .ok () w' ∧ TbM w' tb t next { i with f := upF i.f x p, np := i.np + 1, m := i.m + 1 } lab ∧ Tn (fun b => lab b ≠ 0) W w' := by
  have hmi : Mi W b i.f i.np i.m := by
    rcases h.place with ⟨e, _⟩ | ⟨b', e, hm⟩
    · rw [hpv] at e; cases e
    · rw [hpv] at e; cases e; exact hm
  obtain ⟨es, ck, hmap⟩ := hmi.isMap
  obtain ⟨w', hrun, hm', hg⟩ := hmi.put hx hp hf (by omega)
  have hlb : lab b = 2 := h.l2 b (by rw [hpv]; rfl)
  have htn : Tn (fun c => c = b) W w' := Tn.of_chg ((Chg.refl (fun c => c = b) W).grown hg (fun k hk _ => by cases hk; rfl)) (fun c _ hc => .inr ⟨es, ck, by rw [hc]; exact hmap⟩)
  have hne : ∀ c q, lab c = q → q ≠ 2 → c ≠ b := fun c q e h2 e2 => h2 (by rw [← e, e2]; exact hlb)
  have hkeep : ∀ c q, lab c = q → q ≠ 0 → q ≠ 2 → w'.heap[c]? = W.heap[c]? := fun c q e h0 h1 => htn.chg.block c (h.lt c (by rw [e]; exact h0)) (hne c q e h1)
  refine ⟨w', hrun, ⟨⟨h.form.tn htn, h.cols.tn htn rfl, fun j hj => (h.col j hj).tn htn (hne _ _ (h.l6 j hj) (by omega)) (fun c hc => hne _ _ (h.l7 j hj c hc) (by omega)), .inr ⟨b, hpv, hm'⟩, hm, h.free.of (fun c hc => hkeep c 3 (h.l3 c hc) (by decide) (by decide)), h.gone.tn htn,
    h.late.of (fun c hc => hkeep c 4 (h.l4 c hc) (by decide) (by decide)), h.l1, h.l2, h.l3, h.l4, h.l6, h.l7, fun c hc => Nat.lt_of_lt_of_le (h.lt c hc) htn.size⟩, (hkeep tb 1 h.l1 (by decide) (by decide)).trans h.box⟩, htn.mono (fun c _ hc => by show lab c ≠ 0; rw [show c = b from hc, hlb]; decide)⟩
end
end Go.Proofs.YtffpmmphpdkkbaaGreat
namespace Go.Proofs.YtffpmmphpdkkbaaGreat
open Go Go.RowKit Go.Proofs Co Co.S

/-- May the value stand in the column k? -/
def cOk (t : T) (vals : List T3) (k : Nat) : Bool := match t.cols[k]?, vals[k]? with
  | some c, some x => inC c.kd x
  | _, _ => false
def okVals (t : T) (vals : List T3) : Bool := (List.range t.cols.length).all (cOk t vals)
theorem range_yes {n : Nat} {f : Nat → Bool} (h : ∀ j, j < n → f j = true) : (List.range n).all f = true := by
  rw [List.all_eq_true]; intro x hx; exact h x (List.mem_range.1 hx)
theorem range_no {n : Nat} {f : Nat → Bool} (j : Nat) (hj : j < n) (h : f j = false) : (List.range n).all f = false := by
  rw [List.all_eq_false]; exact ⟨j, List.mem_range.2 hj, by simp [h]⟩
theorem cOk_at {t : T} {vals : List T3} {k : Nat} (hk : k < t.cols.length) (hv : k < vals.length) : cOk t vals k = inC t.cols[k].kd vals[k] := by
  unfold cOk
  rw [List.getElem?_eq_getElem hk, List.getElem?_eq_getElem hv]
theorem okVals_at {t : T} {vals : List T3} (h : okVals t vals = true) {k : Nat} (hk : k < t.cols.length) (hv : k < vals.length) : inC t.cols[k].kd vals[k] = true := by
  rw [← cOk_at hk hv]
  exact List.all_eq_true.1 h k (List.mem_range.2 hk)
/-- The first error of a row to be inserted. -/
def mayE (t : T) (next : Nat) (vals : List T3) : Int := if next = 65536 then 5 else if vals.length ≠ t.cols.length then 1 else if okVals t vals then 0 else 4
theorem below_set3 {n b : Nat} {A x : World} (h : Below n A x) (hb : n ≤ b) (a c d : Value) : Below n A (((x.setCell ⟨b, 0, none⟩ a).setCell ⟨b, 1, none⟩ c).setCell ⟨b, 2, none⟩ d) :=
  ((h.setCell (p := ⟨b, 0, none⟩) hb a).setCell (p := ⟨b, 1, none⟩) hb c).setCell (p := ⟨b, 2, none⟩) hb d
section
variable {W W' : World} {tb next : Nat} {t : T} {i : In} {lab : Nat → Nat}
theorem tmay_nil (v : Value) (W : World) : Calls Tryz.prog 40 #[.pointer none, v] W fun e w' => e = .returned (.int .i64 6) ∧ w' = W := by
  go_enter Tryz.func40, Tryz.ntmps40
  go_wp2
  go_ret
  exact ⟨rfl, rfl⟩
set_option maxRecDepth 100000 in
set_option maxHeartbeats 2000000 in
theorem tmay_any {S : Nat → Prop} {vv : Value} {vals : List T3} (h : TbM W tb t next i lab) (hv : InV S W vv vals) (hn : next ≤ 65536) (hc : t.cols.length ≤ 1000) (hs : ∀ x ∈ vals, x.2.2.size ≤ maxLen) (hl : vals.length ≤ 1000000) :
    Calls Tryz.prog 40 #[(Value.pointer (some ⟨tb, 0, none⟩)), vv] W fun e w' => e = .returned (.int .i64 (mayE t next vals)) ∧ Below W.heap.size W w' := by
  obtain ⟨p, cap, rfl, hv1, hv2⟩ := hv.slice
  obtain ⟨pc, cc, hcv, hc1, hc2⟩ := h.cols.isslice
  have c4 := h.cells.2.2.2.2.1
  have c9 := h.cells.2.2.2.2.2.2.2.2.2
  have zl := h.tlt
  rw [hcv] at c4
  obtain ⟨n, hn0⟩ : ∃ n, t.cols.length = n := ⟨_, rfl⟩
  obtain ⟨m, hm0⟩ : ∃ m, vals.length = m := ⟨_, rfl⟩
  rw [hn0] at c4 hc
  rw [hm0] at hv hv1 hl ⊢
  unfold maxLen at hv2
  have HH := Lib.hid (And.intro h (And.intro hv hs))
  have HN := Lib.hid (And.intro hn0 hm0)
  unfold mayE
  rw [hn0, hm0]
  by_cases h1 : next = 65536
  · subst h1
    rw [if_pos rfl]
    clear h hv hcv hn0 hm0 hc1 hc2 hs
    go_enter Tryz.func40, Tryz.ntmps40
    go_wp2_with fail
    go_ret
    exact ⟨rfl, Below.refl _ _⟩
  · rw [if_neg h1]
    have h1b : ((next : Int) == 65536) = false := by simp; omega
    by_cases h2 : m = n
    · subst h2
      rw [if_neg (fun h => h rfl)]
      obtain ⟨E, hE⟩ : ∃ E, (if okVals t vals = true then (0 : Int) else 4) = E := ⟨_, rfl⟩
      rw [hE]
      have HE := Lib.hid hE
      clear hE
      clear h hv hcv hn0 hm0 hc1 hc2 hs
      go_enter Tryz.func40, Tryz.ntmps40
      go_wp2_with fail
      go_loopg [27] (m + 1) (fun gh jv w => ∃ (j : Nat), jv = .int .i64 (j : Int) ∧ j ≤ m ∧ m + 1 ≤ j + gh ∧ (∀ k, k < j → cOk t vals k = true) ∧ Below W.heap.size W w)
      case atStart => exact ⟨0, rfl, Nat.zero_le _, by omega, fun k hk => absurd hk (Nat.not_lt_zero k), Below.refl _ _⟩
      case round =>
        obtain ⟨j, rfl, hj, hg, hok, hB⟩ := hrel
        by_cases hlt : j < m
        · have hvl : j < vals.length := by rw [HN.out.2]; exact hlt
          have hcl : j < t.cols.length := by rw [HN.out.1]; exact hlt
          obtain ⟨b, off, rfl, hb, v0, v1, v2⟩ := (HH.out.2.1.later hB).val hvl
          have hsz := HH.out.2.2 _ (List.getElem_mem hvl)
          have hck := cOk_at hcl hvl
          obtain ⟨u, hu⟩ : ∃ u, vals[j] = u := ⟨_, rfl⟩
          rw [hu] at v0 v1 v2 hsz hck
          obtain ⟨uk, un, us⟩ := u
          simp only at v0 v1 v2 hsz
          have hb2 := below_alloc wr (.cells #[.int .i64 uk, .int .i64 un, .string us] 53)
          have hx2 := heap_alloc_new wr (.cells #[.int .i64 uk, .int .i64 un, .string us] 53)
          obtain ⟨w2, hw2⟩ : ∃ w2, wr.alloc (.cells #[.int .i64 uk, .int .i64 un, .string us] 53) = w2 := ⟨_, rfl⟩
          rw [hw2] at hb2 hx2
          have hcall := ttakes_any (HH.out.1.later (below_on hB hb2)) j hcl uk un us hsz
          rw [← hck] at hcall
          obtain ⟨ok, hok2⟩ : ∃ ok, cOk t vals j = ok := ⟨_, rfl⟩
          rw [hok2] at hcall
          have HB := Lib.hid (And.intro hok (below_on hB hb2))
          have HW := Lib.hid hw2
          have HO := Lib.hid hok2
          have x0 := nd_cell hx2 0
          have x1 := nd_cell hx2 1
          have x2 := nd_cell hx2 2
          have xl := lt_of_heap hx2
          have hji : (j : Int) < (m : Int) := by omega
          clear hok hB hb2 hx2 hw2 hck hu hok2 hsz hb
          go_upto_region 10 with fail
          rw [HW.out]
          cases ok with
          | true =>
            go_wp2_with (go_at_call 46; (with_reducible refine hcall.mono ?_); rintro e w3 ⟨rfl, hb3⟩; have H3 := Lib.hid hb3; clear hb3)
            go_roundg (m - j)
            case measure => omega
            case rel => exact ⟨j + 1, by go_num, by omega, by omega, fun k hk => by
              by_cases e : k = j
              · rw [e]; exact HO.out
              · exact HB.out.1 k (by omega), below_on HB.out.2 H3.out⟩
          | false =>
            go_wp2_with (go_at_call 46; (with_reducible refine hcall.mono ?_); rintro e w3 ⟨rfl, hb3⟩; have H3 := Lib.hid hb3; clear hb3)
            go_ret
            have hall : okVals t vals = false := range_no j (by rw [HN.out.1]; exact hlt) HO.out
            have hE := HE.out
            rw [hall] at hE
            rw [← hE]
            exact ⟨rfl, below_on HB.out.2 H3.out⟩
        · obtain rfl : j = m := by omega
          have hall : okVals t vals = true := range_yes (fun k hk => hok k (by rw [HN.out.1] at hk; exact hk))
          have hE := HE.out
          rw [hall] at hE
          have HB := Lib.hid (And.intro hB hE)
          clear hok hB hall hE
          go_wp2_with fail
          go_ret
          rw [← HB.out.2]
          exact ⟨rfl, HB.out.1⟩
    · rw [if_pos h2]
      have h2b : ((m : Int) != (n : Int)) = true := by simp; omega
      clear h hv hcv hn0 hm0 hc1 hc2 hs
      go_enter Tryz.func40, Tryz.ntmps40
      go_wp2_with fail
      go_ret
      exact ⟨rfl, Below.refl _ _⟩
end
end Go.Proofs.YtffpmmphpdkkbaaGreat
