/- A region that draws its order: what holds is told by which operations have run and what they left; the rest go one behind the other. -/
import Derived.Test.YtcgceigcegddlaaPar2
namespace Go.Proofs.Ytcgceigcegddlaa.Par
open Go Go.RowKit

section
variable {P : Program} {ops : Array Oper} {Q : Exit → Act → World → Prop}
def upB (l : Nat → Bool) (i : Nat) : Nat → Bool := fun j => if j = i then true else l j
def upV (vs : Nat → Value) (i : Nat) (v : Value) : Nat → Value := fun j => if j = i then v else vs j
theorem par3_run {n g : Nat} {a : Act} {J : (Nat → Bool) → (Nat → Value) → World → Prop} (hB : parB ops n = true)
    (hop : ∀ i o, i < n → ops[i]? = some o → ∀ (l : Nat → Bool) (vs : Nat → Value) w, J l vs w → l i = false → (∀ j, depB ops i j = true → l j = true) → (∀ a b, depB ops a b = true → l a = true → l b = true) → GivesV P ops (putA ops vs n a) (fun v w' => J (upB l i) (upV vs i v) w') o w)
    (hT : ∀ (vs : Nat → Value) listed w, HeadInv .any ops n listed → (∀ j, j < n → listed.getD j false = true) → J (fun j => listed.getD j false) vs w → wpAny P .any ops Q g listed (putA ops vs n a) w) :
    ∀ c listed (vs : Nat → Value) w, HeadInv .any ops n listed → cntL listed n = c → J (fun j => listed.getD j false) vs w → wpAny P .any ops Q (c + g) listed (putL ops vs listed n a) w := by
  simp only [parB, Bool.and_eq_true, decide_eq_true_eq, List.all_eq_true, List.mem_range] at hB
  obtain ⟨⟨⟨⟨hsel, hn⟩, hhead⟩, htail⟩, _⟩ := hB
  have hd : ∀ j k, j < n → k < n → j ≠ k → ∀ d, dstAt ops j = some d → dstAt ops k ≠ some d := fun j k hj hk hne d h1 h2 => by
    have h3 := hhead k hk
    cases ho : ops[k]? with
    | none => simp [ho] at h3
    | some o =>
      simp only [ho, Bool.and_eq_true, List.all_eq_true, List.mem_range] at h3
      have h4 := h3.2 j hj
      simp only [h1, h2, Bool.and_eq_true, Bool.or_eq_true, beq_iff_eq, bne_self_eq_false, Bool.false_eq_true, or_false] at h4
      exact hne h4.1
  intro c
  induction c with
  | zero =>
    intro listed vs w inv hc hJ
    have hall : ∀ j, j < n → listed.getD j false = true := fun j hj => by
      have h1 := cntL_zero n hc j hj
      have h2 : j < listed.size := by rw [inv.size]; omega
      simpa [h2] using h1
    rw [putL_all n hall, Nat.zero_add]
    exact hT vs listed w inv hall hJ
  | succ c ih =>
    intro listed vs w inv hc hJ
    obtain ⟨m, hm, hun, hlow⟩ := cntL_pos n (by omega : 0 < cntL listed n)
    have hmr : m ∈ Region.ready .any ops listed := by
      rw [mem_ready]
      have h3 := hhead m hm
      cases ho : ops[m]? with
      | none => simp [ho] at h3
      | some o =>
        refine ⟨hun, o, rfl, fun e he hb => ?_⟩
        simp only [ho, Bool.and_eq_true, Array.all_eq_true_iff_forall_mem, Bool.or_eq_true, Bool.not_eq_true', decide_eq_true_eq] at h3
        have h4 := (h3.1 e he).resolve_left (by simp [hb])
        have h5 := hlow e.on h4
        have h6 : e.on < listed.size := by rw [inv.size]; omega
        simpa [h6] using h5
    rw [show c + 1 + g = (c + g) + 1 by omega]
    refine ⟨fun h0 => (by rw [h0] at hmr; cases hmr), fun i hi => ?_⟩
    have hin : i < n := by
      rcases Nat.lt_or_ge i n with h | h
      · exact h
      · obtain ⟨_, o, ho, _⟩ := mem_ready.1 hi
        have hio : i < ops.size := (Array.getElem?_eq_some_iff.1 ho).1
        simp only [Bool.or_eq_true, beq_iff_eq, Bool.and_eq_true] at htail
        rcases htail with h1 | ⟨h1, h2⟩
        · omega
        · exact absurd hi (tail_waits h1 h2 (by omega) inv _ m rfl hm hun i h)
    obtain ⟨hiun, o, ho, hall⟩ := mem_ready.1 hi
    have hdst : o.dst = dstAt ops i := by simp [dstAt, ho]
    refine givesV_wp ho (fun cs b => Region.noSelect_spec hsel i o cs b ho) (fun t ht => put_agree n fun j hj hjd => ?_) (hop i o hin ho (fun j => listed.getD j false) vs w hJ (getD_both hiun) (fun j hdep => ?_) fun x y hxy hx => ?_) fun v w' hR' => ?_
    · have h3 := hhead i hin
      simp only [ho, Bool.and_eq_true, List.all_eq_true, List.mem_range] at h3
      have h4 := h3.2 j hj
      simp only [hjd, Bool.and_eq_true, Bool.or_eq_true, Bool.not_eq_true', List.contains_eq_mem, decide_eq_false_iff_not] at h4
      rcases h4.2 with h5 | h5
      · exact absurd ht h5
      · obtain ⟨e, he, hb⟩ := Array.any_eq_true'.1 h5
        simp only [Bool.and_eq_true, beq_iff_eq] at hb
        rw [← hb.2]
        exact hall e he hb.1
    · unfold depB at hdep
      simp only [ho] at hdep
      obtain ⟨e, he, hb⟩ := Array.any_eq_true'.1 hdep
      simp only [Bool.and_eq_true, beq_iff_eq] at hb
      have := hall e he hb.1
      rw [hb.2] at this
      exact this
    · unfold depB at hxy
      cases hox : ops[x]? with
      | none => simp [hox] at hxy
      | some ox =>
        simp only [hox] at hxy
        obtain ⟨e, he, hb⟩ := Array.any_eq_true'.1 hxy
        simp only [Bool.and_eq_true, beq_iff_eq] at hb
        have := inv.closed x ox hox hx e he hb.1
        rw [hb.2] at this
        exact this
    · have hunl : listed.getD i false = false := getD_both hiun
      have key : (putL ops vs listed n a).put o.dst v = putL ops (upV vs i v) (listed.setIfInBounds i true) n a := by
        rw [putL_set hiun n hin hd, hdst]
        simp only [upV, if_true]
        congr 1
        exact putL_congr n fun j hj hl => by
          have : j ≠ i := fun e => by rw [e, hunl] at hl; cases hl
          simp [upV, this]
      rw [key]
      refine ih _ _ w' (inv.set hi hin) (by have := cntL_set hiun n hin; omega) ?_
      have e : (fun j => (listed.setIfInBounds i true).getD j false) = upB (fun j => listed.getD j false) i := by
        funext j
        by_cases h : j = i
        · subst h
          have hlt : j < listed.size := by
            rcases Nat.lt_or_ge j listed.size with h' | h'
            · exact h'
            · simp [Array.getElem?_eq_none h'] at hiun
          simp [upB, hlt]
        · rw [getD_set_ne false (fun h' => h h'.symm)]
          simp [upB, h]
      rw [e]
      exact hR'

/-- A fact for each operation. -/
def GiveAllJ (P : Program) (ops : Array Oper) (A : (Nat → Value) → Act) (J : (Nat → Bool) → (Nat → Value) → World → Prop) : Nat → List Oper → Prop
  | _, [] => True
  | i, o :: os => (∀ (l : Nat → Bool) (vs : Nat → Value) w, J l vs w → l i = false → (∀ j, depB ops i j = true → l j = true) → (∀ a b, depB ops a b = true → l a = true → l b = true) → GivesV P ops (A vs) (fun v w' => J (upB l i) (upV vs i v) w') o w) ∧ GiveAllJ P ops A J (i + 1) os
theorem GiveAllJ.at_ {A : (Nat → Value) → Act} {J : (Nat → Bool) → (Nat → Value) → World → Prop} : ∀ (os : List Oper) (k : Nat), GiveAllJ P ops A J k os → ∀ i o, os[i]? = some o → ∀ (l : Nat → Bool) (vs : Nat → Value) w, J l vs w → l (k + i) = false → (∀ j, depB ops (k + i) j = true → l j = true) → (∀ a b, depB ops a b = true → l a = true → l b = true) → GivesV P ops (A vs) (fun v w' => J (upB l (k + i)) (upV vs (k + i) v) w') o w
  | [], _, _, i, o, h => by simp at h
  | o :: os, k, hg, 0, o', h => by
    have : o = o' := by simpa using h
    subst this
    exact hg.1
  | o :: os, k, hg, i + 1, o', h => by
    have := GiveAllJ.at_ os (k + 1) hg.2 i o' (by simpa using h)
    rw [show k + 1 + i = k + (i + 1) by omega] at this
    exact this

/-- **A region that draws its order: J holds of which of its first n operations have run and of what they left, all the while; then the rest, one behind the other.** -/
theorem wp_region_par3 {id : Nat} {l : List Oper} {a : Act} {w : World} (n : Nat) (J : (Nat → Bool) → (Nat → Value) → World → Prop) (A : (Nat → Value) → Act) (hm : P.follows .mixedOrders = true) (hB : parB l.toArray n = true)
    (hA : ∀ vs, putA l.toArray vs n a = A vs) (hJ : ∀ vs, J (fun _ => false) vs w.drew)
    (hop : GiveAllJ P l.toArray A J 0 (l.take n))
    (hT : ∀ (l' : Nat → Bool) (vs : Nat → Value) w', (∀ j, j < n → l' j = true) → J l' vs w' → wpList P l.toArray Q (l.drop n) (A vs) w') : (Code.region id l.toArray true).wp P Q a w := by
  simp only [← hA] at hT
  have hB' := hB
  simp only [parB, Bool.and_eq_true, decide_eq_true_eq] at hB'
  obtain ⟨⟨⟨⟨_, hn⟩, _⟩, _⟩, hseq⟩ := hB'
  have hn' : n ≤ l.length := by simpa using hn
  have inv0 : HeadInv .any l.toArray n (Array.replicate l.toArray.size false) :=
    ⟨by simp, fun j oj _ hl => (by rw [getD_replicate_false] at hl; cases hl), fun t _ ht => getD_in (by simpa using ht) (getD_replicate_false _ _)⟩
  have hcnt : ∀ m, m ≤ l.toArray.size → cntL (Array.replicate l.toArray.size false) m = m := fun m hm' => by
    induction m with
    | zero => rfl
    | succ m ih =>
      have h1 : (Array.replicate l.toArray.size false).getD m true = false := getD_in (by simp at hm' ⊢; omega) (getD_replicate_false _ _)
      simp only [cntL, ih (by omega), h1, if_true]
  have hput : ∀ m, putL l.toArray (fun _ => undef) (Array.replicate l.toArray.size false) m a = a := fun m => by
    induction m with
    | zero => rfl
    | succ m ih => simp only [putL, getD_replicate_false, Bool.false_eq_true, if_false, ih]
  refine wp_region_any hm ?_
  have H := par3_run (P := P) (Q := Q) (g := l.toArray.size - n) (a := a) (J := J) hB
    (fun i o hi ho lb vs w' hJ' hl hdep hcl => by
      have := hop.at_ _ _ i o (by simpa [hi] using ho) lb vs w' hJ' (by rw [Nat.zero_add]; exact hl) (by rw [Nat.zero_add]; exact hdep) hcl
      rw [Nat.zero_add] at this
      rw [hA]
      exact this)
    (fun vs listed w' inv hall hJ' => by
      have e : listed = headsOnly n l.toArray.size := by
        refine Array.ext_getElem? fun j => ?_
        rcases Nat.lt_or_ge j l.toArray.size with hj | hj
        · have h1 : j < listed.size := by rw [inv.size]; exact hj
          have h2 : j < l.length := by simpa using hj
          rcases Nat.lt_or_ge j n with h | h
          · have h3 := hall j h
            simp [h1] at h3
            simp [headsOnly, h1, h2, h3, h]
          · have h3 := inv.tail j h hj
            simp [h1] at h3
            have h4 : ¬ j < n := by omega
            simp [headsOnly, h1, h2, h3, h4]
        · rw [Array.getElem?_eq_none (by rw [inv.size]; exact hj), Array.getElem?_eq_none (by simpa [headsOnly] using hj)]
      have hl : (l.drop n).length = l.toArray.size - n := by simp
      have hgo := hT (fun j => listed.getD j false) vs w' hall hJ'
      subst e
      have := wpAny_of_seq (md := .any) (Q' := Q) (l.drop n) n (headsOnly n l.toArray.size) (putA l.toArray vs n a) w' (fun j => by simp [List.getElem?_drop]) (by rw [hl]; exact hseq) hgo
      rwa [hl] at this)
    n (Array.replicate l.toArray.size false) (fun _ => undef) w.drew inv0 (hcnt n hn) (by
      have e : (fun j => (Array.replicate l.toArray.size false).getD j false) = fun _ => false := by funext j; rw [getD_replicate_false]
      rw [e]
      exact hJ _)
  rw [hput, show n + (l.toArray.size - n) = l.toArray.size by omega] at H
  exact H
end
end Go.Proofs.Ytcgceigcegddlaa.Par
