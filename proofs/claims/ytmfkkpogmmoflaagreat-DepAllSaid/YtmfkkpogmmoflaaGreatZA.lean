/- What the document's rules give, one way at a time. -/
import Derived.Test.YtmfkkpogmmoflaaGreatVA
namespace Go.Proofs.YtmfkkpogmmoflaaGreat
open Go Go.RowKit Go.Proofs

/-- The table that a way leads to. -/
def tabU (ts : List T) (tb : ByteArray) (a : List ByteArray) : ByteArray := if 0 < a.length then (pcolL ts tb a).1.tgt else tb
theorem tabU_is {ts : List T} {tb u : ByteArray} {a : List ByteArray} (h : lead ts tb a = some u) (hl : a.length ≤ 4) : tabU ts tb a = u := by
  unfold tabU
  split
  · rename_i h0
    obtain ⟨a', x, rfl, _⟩ := snoc_of (p := a) (by omega)
    obtain ⟨u', h1, h2, h3, h4⟩ := lead_snoc.1 h
    rw [List.length_append, List.length_singleton] at hl
    rw [okL (by omega) h1 h2]
    exact h4
  · rename_i h0
    have : a = [] := List.eq_nil_of_length_eq_zero (by omega)
    subst this
    simpa [lead] using h
/-- The last rule: some dep gives it. -/
def depG (t : T) (has : List (List ByteArray)) (a : List ByteArray) (y : ByteArray) (d : D) : Bool := eqS d.right y && d.left.all fun l => mustC t l && inP has (a ++ [l])
def g1 (has : List (List ByteArray)) (a : List ByteArray) : Bool := decide (0 < a.length) && inP has a
def g2 (ts : List T) (tb : ByteArray) (has : List (List ByteArray)) (p : List ByteArray) : Bool := !(eqS (pcolL ts tb p).1.tgt e0) && inP has (p ++ [(orT (findT ts (pcolL ts tb p).1.tgt)).key])
def g3 (t : T) (has : List (List ByteArray)) (a : List ByteArray) : Bool := (decide (a.length = 0) && !(eqS t.key e0)) && inP has [t.key]
def g4 (t : T) (has : List (List ByteArray)) (a : List ByteArray) (y : ByteArray) : Bool := t.deps.any (depG t has a y)
def givenA (ts : List T) (tb : ByteArray) (has : List (List ByteArray)) (a : List ByteArray) (y : ByteArray) : Bool :=
  g1 has a || (g2 ts tb has (a ++ [y]) || (g3 (orT (findT ts (tabU ts tb a))) has a || g4 (orT (findT ts (tabU ts tb a))) has a y))
def givenP (ts : List T) (tb : ByteArray) (has : List (List ByteArray)) (p : List ByteArray) : Bool := givenA ts tb has p.dropLast (p.getLast?.getD e0)
theorem givenP_snoc (ts : List T) (tb : ByteArray) (has : List (List ByteArray)) (a : List ByteArray) (y : ByteArray) : givenP ts tb has (a ++ [y]) = givenA ts tb has a y := by
  unfold givenP
  rw [List.dropLast_concat, List.getLast?_concat]; rfl
section
variable {ts : List T} {tb : ByteArray} {F : List ByteArray → Prop} {has : List (List ByteArray)}
theorem no_e0 {ts : List T} (hN : Fine ts) {u : ByteArray} (h : hasC (colsAt ts u) e0 = true) : False := by
  obtain ⟨t, ht, hc⟩ := tab_of h
  obtain ⟨hm, _, _⟩ := hN.find ht
  rw [hc] at h
  obtain ⟨c, hcm, hcn, _⟩ := col_has h
  have := hN.inv.col t hm c hcm
  rw [hcn, named_e0] at this
  cases this
/-- What is given may be told. -/
theorem given_sound {p : List ByteArray} (hp : Ok ts tb p) (hh : ∀ x ∈ has, Cl ts tb F x) (h : givenP ts tb has p = true) : Cl ts tb F p := by
  obtain ⟨a, y, rfl, _⟩ := snoc_of hp.len.1
  rw [givenP_snoc] at h
  obtain ⟨hal, u, hu, hc⟩ := ok_snoc.1 hp
  obtain ⟨t, ht, htc⟩ := tab_of hc
  have htu := tabU_is hu (by omega)
  unfold givenA at h
  rw [htu, ht] at h
  simp only [Bool.or_eq_true] at h
  rcases h with h | h | h | h
  · unfold g1 at h
    rw [Bool.and_eq_true] at h
    exact .down (hh _ (inP_iff.1 h.2)) hp
  · unfold g2 at h
    rw [okL hal hu hc] at h
    simp only [Bool.and_eq_true, Bool.not_eq_true'] at h
    have hcl := hh _ (inP_iff.1 h.2)
    have hl : lead ts tb (a ++ [y]) = some (orC (colOf (colsAt ts u) y)).tgt := lead_snoc.2 ⟨u, hu, hc, h.1, rfl⟩
    obtain ⟨hal2, v, hv, hkc⟩ := ok_snoc.1 hcl.ok
    obtain rfl : (orC (colOf (colsAt ts u) y)).tgt = v := by rw [hl] at hv; exact Option.some.inj hv
    obtain ⟨t2, ht2, _⟩ := tab_of hkc
    rw [ht2] at hcl
    exact .up hl ht2 hcl hp
  · unfold g3 at h
    simp only [Bool.and_eq_true, decide_eq_true_eq] at h
    have ha : a = [] := List.eq_nil_of_length_eq_zero h.1.1
    subst ha
    have : tb = u := by simpa [lead] using hu
    subst this
    exact .key ht (hh _ (inP_iff.1 h.2)) hp
  · unfold g4 at h
    rw [List.any_eq_true] at h
    obtain ⟨d, hd, h⟩ := h
    unfold depG at h
    rw [Bool.and_eq_true, List.all_eq_true] at h
    obtain ⟨h1, h2⟩ := h
    have e : d.right = y := eqS_iff.1 h1
    subst e
    refine .dep hu ht hd (fun l hl => ?_) (fun l hl => ?_) hp
    · have := h2 l hl
      rw [Bool.and_eq_true] at this
      exact this.1
    · have := h2 l hl
      rw [Bool.and_eq_true] at this
      exact hh _ (inP_iff.1 this.2)
/-- Where nothing more is given all that the rules tell is there. -/
theorem given_all (hN : Fine ts) (hb : ∀ p, Ok ts tb p → F p → p ∈ has) (hg : ∀ p, Ok ts tb p → p ∈ has ∨ givenP ts tb has p = false) {p : List ByteArray} (h : Cl ts tb F p) : p ∈ has := by
  induction h with
  | base h1 h2 => exact hb _ h1 h2
  | @down a y h1 h2 ih =>
    refine (hg _ h2).elim id fun h => ?_
    rw [givenP_snoc] at h
    have : g1 has a = true := by
      unfold g1
      rw [Bool.and_eq_true]
      exact ⟨decide_eq_true (by have := h1.ok.len; omega), inP_iff.2 ih⟩
    unfold givenA at h
    rw [this, Bool.true_or] at h
    cases h
  | @up q u t h1 h2 h3 h4 ih =>
    refine (hg _ h4).elim id fun h => ?_
    obtain ⟨a, y, rfl, _⟩ := snoc_of h4.len.1
    rw [givenP_snoc] at h
    obtain ⟨hal, v, hv, hc⟩ := ok_snoc.1 h4
    obtain ⟨v', k1, k2, k3, k4⟩ := lead_snoc.1 h1
    obtain rfl : v = v' := by rw [hv] at k1; exact Option.some.inj k1
    have : g2 ts tb has (a ++ [y]) = true := by
      unfold g2
      rw [okL hal hv hc]
      show (!(eqS (orC (colOf (colsAt ts v) y)).tgt e0) && inP has (a ++ [y] ++ [(orT (findT ts (orC (colOf (colsAt ts v) y)).tgt)).key])) = true
      rw [k3, k4, h2]
      exact inP_iff.2 ih
    unfold givenA at h
    rw [this, Bool.true_or, Bool.or_true] at h
    cases h
  | @key t x h1 h2 h3 ih =>
    refine (hg _ h3).elim id fun h => ?_
    have h' : givenP ts tb has ([] ++ [x]) = false := h
    rw [givenP_snoc] at h'
    have hk := (ok_snoc (a := []) (x := t.key)).1 h2.ok
    obtain ⟨_, v, hv, hc⟩ := hk
    have : g3 (orT (findT ts (tabU ts tb []))) has [] = true := by
      unfold g3
      rw [show tabU ts tb [] = tb from rfl, h1]
      simp only [Bool.and_eq_true, decide_eq_true_eq, Bool.not_eq_true']
      refine ⟨⟨rfl, ?_⟩, inP_iff.2 ih⟩
      cases he : eqS (orT (some t)).key e0 with
      | false => rfl
      | true =>
        have e : t.key = e0 := eqS_iff.1 he
        rw [e] at hc
        exact (no_e0 hN hc).elim
    unfold givenA at h'
    rw [this, Bool.true_or, Bool.or_true, Bool.or_true] at h'
    cases h'
  | @dep a u t d h1 h2 h3 h4 _ h6 ih =>
    refine (hg _ h6).elim id fun h => ?_
    rw [givenP_snoc] at h
    obtain ⟨hal, _⟩ := ok_snoc.1 h6
    have : g4 (orT (findT ts (tabU ts tb a))) has a d.right = true := by
      unfold g4
      rw [tabU_is h1 (by omega), h2, List.any_eq_true]
      refine ⟨d, h3, ?_⟩
      unfold depG
      rw [Bool.and_eq_true, List.all_eq_true]
      refine ⟨eqS_self _, fun l hl => ?_⟩
      rw [Bool.and_eq_true]
      exact ⟨h4 l hl, inP_iff.2 (ih l hl)⟩
    unfold givenA at h
    rw [this, Bool.or_true, Bool.or_true, Bool.or_true] at h
    cases h
end
end Go.Proofs.YtmfkkpogmmoflaaGreat
