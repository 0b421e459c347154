/- A region that draws its order, where its operations make memory: what is known of each operation's value, whatever the order; the rest go one behind the other. -/
import Derived.Test.YtcgceigcegddlaaPar
import Derived.Test.YtcgceigcegddlaaH
namespace Go.Proofs.Ytcgceigcegddlaa.Par
open Go Go.RowKit

section
variable {P : Program} {ops : Array Oper} {Q : Exit → Act → World → Prop}

/-- One operation, what it looks at at hand: R of what it leaves. -/
def GivesV (P : Program) (ops : Array Oper) (A : Act) (R : Value → World → Prop) (o : Oper) (w : World) : Prop :=
  if Region.wanted o (yielded ops A.tmps) = true then
    match (execOp A.eval o).run P w with
    | .ok (.value u) w' => R u w'
    | .ok (.enter f args) w' => Calls P f args w' fun e w'' => ∃ v, e = .returned v ∧ R v w''
    | _ => False
  else R undef w

theorem givesV_wp {o : Oper} {A a : Act} {w : World} {R : Value → World → Prop} {K : Act → World → Prop} {i : Nat} (hi : ops[i]? = some o)
    (hs : ∀ cs b, o.op ≠ .select cs b) (hl : ∀ t, t ∈ o.looksAt ops → a.tmps[t]? = A.tmps[t]?) (h : GivesV P ops A R o w) (hK : ∀ v w', R v w' → K (a.put o.dst v) w') : wpOp P ops Q i K a w := by
  obtain ⟨h1, h2⟩ := looks_eval hl
  unfold wpOp
  simp only [hi, h2]
  unfold GivesV at h
  split at h
  · rename_i hw
    rw [if_pos hw]
    refine .inl ?_
    unfold Oper.wp
    rw [execOp_congr o hs h1]
    revert h
    generalize (execOp A.eval o).run P w = r
    intro h
    cases r with
    | halt x w' => exact absurd h (by simp)
    | ok n w' =>
      cases n <;> simp only [Oper.upon] at h ⊢
      case value u => exact hK u w' h
      case enter f args =>
        refine Calls.mono h fun e w'' he => ?_
        obtain ⟨v, rfl, hR⟩ := he
        exact hK v w'' hR
  · rename_i hw
    rw [if_neg hw]
    exact hK undef w h

theorem putL_congr {vs vs' : Nat → Value} {listed : Array Bool} {a : Act} : ∀ m, (∀ j, j < m → listed.getD j false = true → vs j = vs' j) → putL ops vs listed m a = putL ops vs' listed m a
  | 0, _ => rfl
  | m + 1, h => by
    have ih := putL_congr (a := a) m (fun j hj => h j (by omega))
    simp only [putL, ih]
    split
    · rename_i hl
      rw [h m (by omega) hl]
    · rfl

/-- The operation i waits for the operation j. -/
def depB (ops : Array Oper) (i j : Nat) : Bool := match ops[i]? with | none => false | some o => o.after.any fun e => Region.binds .any e && e.on == j

theorem par2_run {n g : Nat} {a : Act} {K : World → Prop} {V : Nat → Value → World → Prop} (hB : parB ops n = true)
    (hmK : ∀ w w', K w → Below w.heap.size w w' → K w') (hmV : ∀ j v w w', V j v w → Below w.heap.size w w' → V j v w')
    (hop : ∀ i o, i < n → ops[i]? = some o → ∀ (vs : Nat → Value) w, K w → (∀ j, j < n → depB ops i j = true → V j (vs j) w) → GivesV P ops (putA ops vs n a) (fun v w' => V i v w' ∧ Below w.heap.size w w') o w)
    (hT : ∀ (vs : Nat → Value) listed w, HeadInv .any ops n listed → (∀ j, j < n → listed.getD j false = true) → K w → (∀ j, j < n → V j (vs j) w) → wpAny P .any ops Q g listed (putA ops vs n a) w) :
    ∀ c listed (vs : Nat → Value) w, HeadInv .any ops n listed → cntL listed n = c → K w → (∀ j, j < n → listed.getD j false = true → V j (vs j) w) → wpAny P .any ops Q (c + g) listed (putL ops vs listed n a) w := by
  simp only [parB, Bool.and_eq_true, decide_eq_true_eq, List.all_eq_true, List.mem_range] at hB
  obtain ⟨⟨⟨⟨hsel, hn⟩, hhead⟩, htail⟩, _⟩ := hB
  have hd : ∀ j k, j < n → k < n → j ≠ k → ∀ d, dstAt ops j = some d → dstAt ops k ≠ some d := fun j k hj hk hne d h1 h2 => by
    have h3 := hhead k hk
    cases ho : ops[k]? with
    | none => simp [ho] at h3
    | some o =>
      simp only [ho, Bool.and_eq_true, List.all_eq_true, List.mem_range] at h3
      have h4 := h3.2 j hj
      simp only [h1, h2, Bool.and_eq_true, Bool.or_eq_true, beq_iff_eq, bne_self_eq_false, Bool.false_eq_true, or_false] at h4
      exact hne h4.1
  intro c
  induction c with
  | zero =>
    intro listed vs w inv hc hK hV
    have hall : ∀ j, j < n → listed.getD j false = true := fun j hj => by
      have h1 := cntL_zero n hc j hj
      have h2 : j < listed.size := by rw [inv.size]; omega
      simpa [h2] using h1
    rw [putL_all n hall, Nat.zero_add]
    exact hT vs listed w inv hall hK (fun j hj => hV j hj (hall j hj))
  | succ c ih =>
    intro listed vs w inv hc hK hV
    obtain ⟨m, hm, hun, hlow⟩ := cntL_pos n (by omega : 0 < cntL listed n)
    have hmr : m ∈ Region.ready .any ops listed := by
      rw [mem_ready]
      have h3 := hhead m hm
      cases ho : ops[m]? with
      | none => simp [ho] at h3
      | some o =>
        refine ⟨hun, o, rfl, fun e he hb => ?_⟩
        simp only [ho, Bool.and_eq_true, Array.all_eq_true_iff_forall_mem, Bool.or_eq_true, Bool.not_eq_true', decide_eq_true_eq] at h3
        have h4 := (h3.1 e he).resolve_left (by simp [hb])
        have h5 := hlow e.on h4
        have h6 : e.on < listed.size := by rw [inv.size]; omega
        simpa [h6] using h5
    rw [show c + 1 + g = (c + g) + 1 by omega]
    refine ⟨fun h0 => (by rw [h0] at hmr; cases hmr), fun i hi => ?_⟩
    have hin : i < n := by
      rcases Nat.lt_or_ge i n with h | h
      · exact h
      · obtain ⟨_, o, ho, _⟩ := mem_ready.1 hi
        have hio : i < ops.size := (Array.getElem?_eq_some_iff.1 ho).1
        simp only [Bool.or_eq_true, beq_iff_eq, Bool.and_eq_true] at htail
        rcases htail with h1 | ⟨h1, h2⟩
        · omega
        · exact absurd hi (tail_waits h1 h2 (by omega) inv _ m rfl hm hun i h)
    obtain ⟨hiun, o, ho, hall⟩ := mem_ready.1 hi
    have hdst : o.dst = dstAt ops i := by simp [dstAt, ho]
    refine givesV_wp ho (fun cs b => Region.noSelect_spec hsel i o cs b ho) (fun t ht => put_agree n fun j hj hjd => ?_) (hop i o hin ho vs w hK fun j hj hdep => ?_) fun v w' hR' => ?_
    · have h3 := hhead i hin
      simp only [ho, Bool.and_eq_true, List.all_eq_true, List.mem_range] at h3
      have h4 := h3.2 j hj
      simp only [hjd, Bool.and_eq_true, Bool.or_eq_true, Bool.not_eq_true', List.contains_eq_mem, decide_eq_false_iff_not] at h4
      rcases h4.2 with h5 | h5
      · exact absurd ht h5
      · obtain ⟨e, he, hb⟩ := Array.any_eq_true'.1 h5
        simp only [Bool.and_eq_true, beq_iff_eq] at hb
        rw [← hb.2]
        exact hall e he hb.1
    · unfold depB at hdep
      simp only [ho] at hdep
      obtain ⟨e, he, hb⟩ := Array.any_eq_true'.1 hdep
      simp only [Bool.and_eq_true, beq_iff_eq] at hb
      have := hall e he hb.1
      rw [hb.2] at this
      exact hV j hj this
    · obtain ⟨hv, hbel⟩ := hR'
      have hunl : listed.getD i false = false := getD_both hiun
      have key : (putL ops vs listed n a).put o.dst v = putL ops (fun j => if j = i then v else vs j) (listed.setIfInBounds i true) n a := by
        rw [putL_set hiun n hin hd, hdst]
        simp only [if_true]
        congr 1
        exact putL_congr n fun j hj hl => by
          have : j ≠ i := fun e => by rw [e, hunl] at hl; cases hl
          simp [this]
      rw [key]
      refine ih _ _ w' (inv.set hi hin) (by have := cntL_set hiun n hin; omega) (hmK _ _ hK hbel) fun j hj hl => ?_
      by_cases e : j = i
      · subst e; simpa using hv
      · simp only [e, if_false]
        rw [getD_set_ne false (fun h => e h.symm)] at hl
        exact hmV _ _ _ _ (hV j hj hl) hbel

/-- A fact for each operation. -/
def GiveAllV (P : Program) (ops : Array Oper) (n : Nat) (A : (Nat → Value) → Act) (K : World → Prop) (V : Nat → Value → World → Prop) : Nat → List Oper → Prop
  | _, [] => True
  | i, o :: os => (∀ (vs : Nat → Value) w, K w → (∀ j, j < n → depB ops i j = true → V j (vs j) w) → GivesV P ops (A vs) (fun v w' => V i v w' ∧ Below w.heap.size w w') o w) ∧ GiveAllV P ops n A K V (i + 1) os
theorem GiveAllV.at_ {n : Nat} {A : (Nat → Value) → Act} {K : World → Prop} {V : Nat → Value → World → Prop} : ∀ (os : List Oper) (k : Nat), GiveAllV P ops n A K V k os → ∀ i o, os[i]? = some o → ∀ (vs : Nat → Value) w, K w → (∀ j, j < n → depB ops (k + i) j = true → V j (vs j) w) → GivesV P ops (A vs) (fun v w' => V (k + i) v w' ∧ Below w.heap.size w w') o w
  | [], _, _, i, o, h => by simp at h
  | o :: os, k, hg, 0, o', h => by
    have : o = o' := by simpa using h
    subst this
    exact hg.1
  | o :: os, k, hg, i + 1, o', h => by
    have := GiveAllV.at_ os (k + 1) hg.2 i o' (by simpa using h)
    rw [show k + 1 + i = k + (i + 1) by omega] at this
    exact this

/-- What is known of a value, wherever more is made. -/
def VW : Type := { R : Value → World → Prop // ∀ v w w', R v w → Below w.heap.size w w' → R v w' }
def VW.eq (x : Value) : VW := ⟨fun v _ => v = x, fun _ _ _ h _ => h⟩
def VW.any : VW := ⟨fun _ _ => True, fun _ _ _ h _ => h⟩
/-- A new block that holds o; the value tells where. -/
def VW.obj (f : Nat → Value) (o : Obj) : VW := ⟨fun v w => ∃ g, v = f g ∧ w.heap[g]? = some o, fun v w w' h hb => by
  obtain ⟨g, h1, h2⟩ := h
  exact ⟨g, h1, (hb.block g (lt_of_heap h2)).trans h2⟩⟩
/-- The same, and the block is none of those below B. -/
def VW.objN (B : Nat) (f : Nat → Value) (o : Obj) : VW := ⟨fun v w => ∃ g, B ≤ g ∧ v = f g ∧ w.heap[g]? = some o, fun v w w' h hb => by
  obtain ⟨g, h0, h1, h2⟩ := h
  exact ⟨g, h0, h1, (hb.block g (lt_of_heap h2)).trans h2⟩⟩
/-- The facts, listed. -/
def VL (l : List VW) (j : Nat) (v : Value) (w : World) : Prop := (l.getD j VW.any).1 v w
theorem VL.mono (l : List VW) (j : Nat) (v : Value) (w w' : World) (h : VL l j v w) (hb : Below w.heap.size w w') : VL l j v w' := (l.getD j VW.any).2 v w w' h hb
/-- **A region that draws its order: of what its first n operations leave V is known, each by its own fact, whatever the order, and they turn nothing that was there; then the rest, one behind the other.** -/
theorem wp_region_par2 {id : Nat} {l : List Oper} {a : Act} {w : World} (n : Nat) (K : World → Prop) (V : Nat → Value → World → Prop) (A : (Nat → Value) → Act) (hm : P.follows .mixedOrders = true) (hB : parB l.toArray n = true)
    (hmK : ∀ w w', K w → Below w.heap.size w w' → K w') (hmV : ∀ j v w w', V j v w → Below w.heap.size w w' → V j v w') (hA : ∀ vs, putA l.toArray vs n a = A vs) (hK : K w.drew)
    (hop : GiveAllV P l.toArray n A K V 0 (l.take n))
    (hT : ∀ (vs : Nat → Value) w', K w' → (∀ j, j < n → V j (vs j) w') → wpList P l.toArray Q (l.drop n) (A vs) w') : (Code.region id l.toArray true).wp P Q a w := by
  simp only [← hA] at hT
  have hB' := hB
  simp only [parB, Bool.and_eq_true, decide_eq_true_eq] at hB'
  obtain ⟨⟨⟨⟨_, hn⟩, _⟩, _⟩, hseq⟩ := hB'
  have hn' : n ≤ l.length := by simpa using hn
  have inv0 : HeadInv .any l.toArray n (Array.replicate l.toArray.size false) :=
    ⟨by simp, fun j oj _ hl => (by rw [getD_replicate_false] at hl; cases hl), fun t _ ht => getD_in (by simpa using ht) (getD_replicate_false _ _)⟩
  have hcnt : ∀ m, m ≤ l.toArray.size → cntL (Array.replicate l.toArray.size false) m = m := fun m hm' => by
    induction m with
    | zero => rfl
    | succ m ih =>
      have h1 : (Array.replicate l.toArray.size false).getD m true = false := getD_in (by simp at hm' ⊢; omega) (getD_replicate_false _ _)
      simp only [cntL, ih (by omega), h1, if_true]
  have hput : ∀ m, putL l.toArray (fun _ => undef) (Array.replicate l.toArray.size false) m a = a := fun m => by
    induction m with
    | zero => rfl
    | succ m ih => simp only [putL, getD_replicate_false, Bool.false_eq_true, if_false, ih]
  refine wp_region_any hm ?_
  have H := par2_run (P := P) (Q := Q) (g := l.toArray.size - n) (a := a) (K := K) (V := V) hB hmK hmV
    (fun i o hi ho vs w' hK' hdep => by
      have := hop.at_ _ _ i o (by simpa [hi] using ho) vs w' hK' (by rw [Nat.zero_add]; exact hdep)
      rw [Nat.zero_add] at this
      rw [hA]
      exact this)
    (fun vs listed w' inv hall hK' hV' => by
      have e : listed = headsOnly n l.toArray.size := by
        refine Array.ext_getElem? fun j => ?_
        rcases Nat.lt_or_ge j l.toArray.size with hj | hj
        · have h1 : j < listed.size := by rw [inv.size]; exact hj
          have h2 : j < l.length := by simpa using hj
          rcases Nat.lt_or_ge j n with h | h
          · have h3 := hall j h
            simp [h1] at h3
            simp [headsOnly, h1, h2, h3, h]
          · have h3 := inv.tail j h hj
            simp [h1] at h3
            have h4 : ¬ j < n := by omega
            simp [headsOnly, h1, h2, h3, h4]
        · rw [Array.getElem?_eq_none (by rw [inv.size]; exact hj), Array.getElem?_eq_none (by simpa [headsOnly] using hj)]
      subst e
      have hl : (l.drop n).length = l.toArray.size - n := by simp
      have := wpAny_of_seq (md := .any) (Q' := Q) (l.drop n) n (headsOnly n l.toArray.size) (putA l.toArray vs n a) w' (fun j => by simp [List.getElem?_drop]) (by rw [hl]; exact hseq) (hT vs w' hK' hV')
      rwa [hl] at this)
    n (Array.replicate l.toArray.size false) (fun _ => undef) w.drew inv0 (hcnt n hn) hK (fun j _ hl => (by rw [getD_replicate_false] at hl; cases hl))
  rw [hput, show n + (l.toArray.size - n) = l.toArray.size by omega] at H
  exact H
end
end Go.Proofs.Ytcgceigcegddlaa.Par
