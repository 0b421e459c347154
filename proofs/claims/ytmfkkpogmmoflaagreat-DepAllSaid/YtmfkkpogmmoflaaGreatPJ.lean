/- slices.SortFunc of ways; path.All. path.All. -/
import Derived.Test.YtmfkkpogmmoflaaGreatPG
import Derived.Test.YtmfkkpogmmoflaaGreatSH
namespace Go.Proofs.YtmfkkpogmmoflaaGreat
open Go Go.RowKit Go.Proofs

/-- A way in memory. -/
structure SV (w : World) where
  v : Value
  l : List ByteArray
  ok : Wd w v l
instance (w : World) : Inhabited (SV w) := ⟨⟨.slice none 0 0, [], Wd.nil w⟩⟩
def SV.cf {w : World} (x y : SV w) : Int := cmpP x.l y.l
theorem SV.one (w : World) : OneCell (SV.v : SV w → Value) := fun x => by
  obtain ⟨p, c, e, _⟩ := x.ok.slice
  rw [e]; rfl
theorem SV.lt {w : World} (x y : SV w) : ltOf SV.cf x y = true ↔ cmpP x.l y.l < 0 := by unfold ltOf SV.cf; rw [decide_eq_true_iff]
theorem SV.nlt {w : World} (x y : SV w) : ltOf SV.cf x y = false ↔ 0 ≤ cmpP x.l y.l := by unfold ltOf SV.cf; rw [decide_eq_false_iff_not]; omega
theorem SV.swo (w : World) : Sort.SWO (ltOf (SV.cf : SV w → SV w → Int)) where
  irrefl x := by rw [SV.nlt, cmpP_self]; exact Int.le_refl _
  trans x y z h1 h2 := by
    rw [SV.lt] at *
    have h3 := @cmpP_trans x.l y.l z.l (by omega) (by omega)
    rcases Int.lt_or_eq_of_le h3 with h | h
    · exact h
    · rw [cmpP_zero] at h
      have := cmpP_swap x.l y.l
      rw [h] at this h1
      omega
  ntrans x y z h1 h2 := by
    rw [SV.nlt] at *
    have a1 := cmpP_swap x.l y.l
    have a2 := cmpP_swap y.l z.l
    have a3 := cmpP_swap x.l z.l
    have := @cmpP_trans z.l y.l x.l (by omega) (by omega)
    omega
section
variable {α : Type} [Inhabited α] {enc : α → Value}
theorem holds_blk {w : World} {g : Nat} {cur : Array Value} {e : TypeId} {ss : List α} (hb : w.heap[g]? = some (.cells cur e (0, 0))) (ht : cur.toList.take ss.length = ss.map enc) : Sort.Holds enc w g 0 ss.toArray := by
  intro j hj
  have hj' : j < ss.length := by simpa using hj
  refine ⟨?_, by simp [World.frozen?, hb]⟩
  have h1 : (cur.toList.take ss.length)[j]? = (ss.map enc)[j]? := by rw [ht]
  rw [List.getElem?_take_of_lt hj'] at h1
  simp only [World.cell?, hb, Nat.zero_add]
  simp only [Option.isSome_none, Bool.false_eq_true, if_false]
  rw [← Array.getElem?_toList, h1]
  simp [hj']
theorem heap_srt {w : World} {g n : Nat} {os : Array Obj} {cur : Array Value} {e : TypeId} {fr : Nat × Nat} (d : Array α) (hb : w.heap[g]? = some (.cells cur e fr)) :
    (sortWorld enc w g 0 n d os).heap[g]? = some (.cells (Sort.putCells enc 0 d cur) e fr) := by
  have hg : g < w.heap.size := (Array.getElem?_eq_some_iff.1 hb).1
  unfold sortWorld
  rw [Sort.heap_grow_old _ _ (by simpa using hg)]
  simp [Sort.putRow, Sort.mapBlock, Sort.ahead, Array.getElem?_modify, hb, Sort.onCells]
theorem grown_srt {w : World} {g n : Nat} {os : Array Obj} (d : Array α) : w.grownBy (sortWorld enc w g 0 n d os) (some g) := by
  unfold sortWorld
  refine ⟨rfl, rfl, rfl, by simp, fun k hk hne => ?_⟩
  rw [Sort.heap_grow_old _ _ (by simpa using hk)]
  have : g ≠ k := fun e => hne (by rw [e])
  simp [Sort.putRow, Sort.mapBlock, Sort.ahead, Array.getElem?_modify, this]
theorem take_put (cur : Array Value) (ts : List α) (h : ts.length ≤ cur.size) : (Sort.putCells enc 0 ts.toArray cur).toList.take ts.length = ts.map enc := by
  apply List.ext_getElem?
  intro j
  by_cases hj : j < ts.length
  · rw [List.getElem?_take_of_lt hj, Array.getElem?_toList]
    simp [Sort.putCells, hj, show j < cur.size by omega]
  · rw [List.getElem?_take_eq_none (by omega), List.getElem?_eq_none (by simp; omega)]
end
/-- The ways of a row, one by one. -/
theorem PR.list {base : Nat} {v : Value} {vs : List Value} {ps : List (List ByteArray)} {w : World} (h : PR base v vs ps w) : ∃ L : List (SV w), L.map SV.v = vs ∧ L.map SV.l = ps := by
  have key : ∀ (vs : List Value) (ps : List (List ByteArray)), vs.length = ps.length → (∀ j (h : j < vs.length) (h' : j < ps.length), Wd w vs[j] ps[j]) → ∃ L : List (SV w), L.map SV.v = vs ∧ L.map SV.l = ps := by
    intro vs
    induction vs with
    | nil =>
      intro ps hl _
      have : ps = [] := List.eq_nil_of_length_eq_zero hl.symm
      exact ⟨[], rfl, this.symm⟩
    | cons v vs ih =>
      intro ps hl hw
      cases ps with
      | nil => simp at hl
      | cons p ps =>
        obtain ⟨L, h1, h2⟩ := ih ps (by simpa using hl) (fun j a b => hw (j + 1) (by simpa using a) (by simpa using b))
        exact ⟨⟨v, p, hw 0 (by simp) (by simp)⟩ :: L, by rw [List.map_cons, h1], by rw [List.map_cons, h2]⟩
  exact key vs ps h.n h.each
theorem PR.of_list {base : Nat} {v : Value} {w w' : World} (L : List (SV w)) (hr : HRow w' base 25 1 v L.length (L.map SV.v)) (hk : Kp9 w w') : PR base v (L.map SV.v) (L.map SV.l) w' :=
  ⟨by rw [List.length_map]; exact hr, fun j a b => by
    rw [List.getElem_map, List.getElem_map]
    exact (L[j]'(by simpa using a)).ok.kp hk⟩
theorem mem_arr {α : Type} [Inhabited α] (d : Array α) (i : Nat) (h : i < d.size) : d[i]! = d[i] := getElem!_pos d i h
set_option maxHeartbeats 1000000 in
set_option maxRecDepth 100000 in
theorem sort_any {base : Nat} {v : Value} {vs : List Value} {ps : List (List ByteArray)} {W : World} (h : PR base v vs ps W) (hl : ps.length ≤ 1000000) (hnd : ps.Nodup) : Calls Tryz.prog 33 #[v, .func (.func 34) #[] #[]] W fun e w' => e = .returned (.tuple #[]) ∧ ∃ us qs, PR base v us qs w' ∧ qs.Perm ps ∧ qs.Pairwise (fun a b => cmpP a b < 0) ∧ W.grownBy w' v.ownBlock := by
  rcases Nat.eq_zero_or_pos ps.length with h0 | h0
  · have hp : ps = [] := List.eq_nil_of_length_eq_zero h0
    subst hp
    have hv := List.eq_nil_of_length_eq_zero h.n
    subst hv
    obtain ⟨p, cap, rfl, _, _⟩ := h.row.isslice
    refine (AnyF.slices_SortFunc_none (P := Tryz.prog) (ρ := Tryz.sortP_ren) { Tryz.sortP with } p cap _ W).mono ?_
    rintro e w' ⟨rfl, rfl⟩
    exact ⟨rfl, [], [], h, List.Perm.refl _, List.Pairwise.nil, ⟨rfl, rfl, rfl, Nat.le_refl _, fun _ _ _ => rfl⟩⟩
  · obtain ⟨g, cap, rfl, hc, hcm⟩ := h.row.slice h0
    obtain ⟨L, hL1, hL2⟩ := h.list
    obtain ⟨cur, hb, hg, _, _, hcs, htake⟩ := h.row.form
    have hLl : L.length = ps.length := by rw [← hL2, List.length_map]
    rw [Nat.mul_one] at htake hcs
    have eg : ∀ args w, (callFunc 34 args).run Tryz.prog w = .ok (.enter 34 args) w := by intro a w; rfl
    have hcmp : CmpLays1 Tryz.prog 34 #[] (SV.v : SV W → Value) SV.cf g 0 L.toArray.size W := fun m os dk _ x y => by
      have hk : Kp9 W (sortWorld (SV.v : SV W → Value) W g 0 m dk os) := by
        intro q cu me hq
        refine ((grown_srt dk).block q (lt_of_heap hq) (fun eq => ?_)).trans hq
        cases eq
        rw [hg] at hq
        cases hq
      refine (pcmp_any (x.ok.kp hk) (y.ok.kp hk)).mono ?_
      rintro e w' ⟨he, hw⟩
      exact ⟨he, 0, #[], by rw [hw]; rw [Sort.grow_empty]; rfl⟩
    have hrun := Any.slices_SortFunc Tryz.sortP (SV.v : SV W → Value) (SV.one W) SV.cf (SV.swo W) 34 #[] g 0 cap L.toArray W eg hcmp (holds_blk (enc := SV.v) hg (by rw [hLl, hL1]; exact htake)) (lt_of_heap hg) (by rw [List.size_toArray]; omega)
    have e1 : L.toArray.size = ps.length := by rw [List.size_toArray]; exact hLl
    rw [e1] at hrun
    refine Calls.mono hrun ?_
    rintro e w' ⟨rfl, d', n, os, ⟨hsz, _, hperm⟩, hsort, rfl⟩
    rw [e1] at hsz
    have e2 : d'.extract 0 ps.length = d' := by rw [← hsz]; exact Array.extract_size
    have e3 : L.toArray.extract 0 ps.length = L.toArray := by rw [← e1]; exact Array.extract_size
    rw [e2, e3] at hperm
    have hgr := grown_srt (enc := (SV.v : SV W → Value)) (w := W) (g := g) (n := n) (os := os) d'
    have hk : Kp9 W (sortWorld (SV.v : SV W → Value) W g 0 n d' os) := by
      intro q cu me hq
      refine (hgr.block q (lt_of_heap hq) (fun eq => ?_)).trans hq
      cases eq
      rw [hg] at hq
      cases hq
    have hd : d'.toList.toArray = d' := by simp
    have hdl : d'.toList.length = ps.length := by rw [Array.length_toList]; exact hsz
    have hpm : (d'.toList.map SV.l).Perm ps := by
      rw [← hL2]
      exact hperm.map _
    have hrow : HRow (sortWorld (SV.v : SV W → Value) W g 0 n d' os) base 25 1 (.slice (some ⟨g, 0, none⟩) ps.length cap) d'.toList.length (d'.toList.map SV.v) := by
      rw [hdl]
      refine ⟨by rw [List.length_map, hdl, Nat.mul_one], .inr ⟨g, cap, _, rfl, hb, heap_srt d' hg, hc, hcm, by rw [Nat.mul_one]; simpa [Sort.putCells] using hcs, ?_⟩⟩
      rw [Nat.mul_one]
      have := take_put (enc := (SV.v : SV W → Value)) cur d'.toList (by rw [hdl]; omega)
      rw [hd, hdl] at this
      exact this
    refine ⟨rfl, _, _, PR.of_list d'.toList hrow hk, hpm, ?_, hgr⟩
    rw [List.pairwise_iff_getElem]
    intro i j hi hj hij
    rw [List.length_map, hdl] at hi hj
    rw [List.getElem_map, List.getElem_map]
    have hs := hsort i j (Nat.zero_le _) hij hj
    rw [SV.nlt, mem_arr d' j (by omega), mem_arr d' i (by omega)] at hs
    have hsw := cmpP_swap d'[i].l d'[j].l
    have hne : d'[i].l ≠ d'[j].l := by
      have hn : (d'.toList.map SV.l).Nodup := hpm.nodup_iff.2 hnd
      rw [List.nodup_iff_pairwise_ne, List.pairwise_iff_getElem] at hn
      have := hn i j (by rw [List.length_map, hdl]; exact hi) (by rw [List.length_map, hdl]; exact hj) hij
      rw [List.getElem_map, List.getElem_map] at this
      simpa using this
    have hz : cmpP d'[i].l d'[j].l ≠ 0 := fun e => hne (cmpP_zero.1 e)
    simp only [Array.getElem_toList]
    omega
end Go.Proofs.YtmfkkpogmmoflaaGreat
namespace Go.Proofs.YtmfkkpogmmoflaaGreat
open Go Go.RowKit Go.Proofs

/-- What All answers. -/
def AllOf (ts : List T) (tb : ByteArray) (W : World) (e : Ending) (w' : World) : Prop := ∃ p m c vs qs, e = .returned (.slice p m c) ∧ m = qs.length ∧ IsAll ts tb qs ∧ PR W.heap.size (.slice p m c) vs qs w' ∧ Below W.heap.size W w'
set_option maxRecDepth 100000 in
set_option maxHeartbeats 1000000 in
theorem pall_any {ts : List T} {pv : Value} {tb : ByteArray} {W : World} (hf : AllFew ts) (hN : Nice ts) (hs : SchP W pv ts) : Calls Tryz.prog 30 #[pv, .string tb] W (AllOf ts tb W) := by
  have hw := ways_any hf hN 4 tb [] _ W rfl hs (Wd.nil W)
  have HN := Lib.hid hN
  clear hf hN hs
  go_enter Tryz.func30, Tryz.ntmps30
  go_upto_region 2 with (go_at_call 43; (with_reducible refine hw.mono ?_); rintro e w1 ⟨p, m, c, vs, rfl, hm, hP, hb⟩; have HM := Lib.hid hm; clear hm)
  have hlen := ways_len HN.out 4 tb []
  have hmany := manyW_le 4 (by omega)
  have hs := sort_any hP (by omega) (nodup_ways HN.out 4 tb [])
  have H1 := Lib.hid (And.intro HM.out (And.intro hP hb))
  clear hw hP hb hlen hmany
  go_wp2_with (go_at_call 33; (with_reducible refine hs.mono ?_); rintro e w2 ⟨rfl, us, qs, hP2, hpm, hpw, hg⟩)
  go_ret
  have hb2 := below_row H1.out.2.1.row hg (Nat.le_refl _) H1.out.2.2.size
  exact ⟨_, _, _, us, qs, rfl, by rw [H1.out.1, hpm.length_eq], ⟨hpw, hpm⟩, hP2, H1.out.2.2.trans hb2⟩
end Go.Proofs.YtmfkkpogmmoflaaGreat
