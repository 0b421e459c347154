/- A region that draws its order, by one fact an operation: the values that its first n operations leave are known, whatever the order; the rest go one behind the other. -/
import Derived.StillTail
namespace Go.Proofs.Ytcgceigcegddlaa.Par
open Go

section
variable {P : Program} {ops : Array Oper} {Q : Exit → Act → World → Prop}

/-- One operation, all values at hand: it leaves v, and R holds behind it. -/
def Gives (P : Program) (ops : Array Oper) (A : Act) (R : World → Prop) (o : Oper) (v : Value) (w : World) : Prop :=
  if Region.wanted o (yielded ops A.tmps) = true then
    match (execOp A.eval o).run P w with
    | .ok (.value u) w' => u = v ∧ R w'
    | .ok (.enter f args) w' => Calls P f args w' fun e w'' => e = .returned v ∧ R w''
    | _ => False
  else v = undef ∧ R w

def dstAt (ops : Array Oper) (i : Nat) : Option Tmp := (ops[i]?).bind (·.dst)

/-- The frame behind those of the first m that are listed. -/
def putL (ops : Array Oper) (vs : Nat → Value) (listed : Array Bool) : Nat → Act → Act
  | 0, a => a
  | m + 1, a => if listed.getD m false = true then (putL ops vs listed m a).put (dstAt ops m) (vs m) else putL ops vs listed m a
/-- The frame behind the first m. -/
def putA (ops : Array Oper) (vs : Nat → Value) : Nat → Act → Act
  | 0, a => a
  | m + 1, a => (putA ops vs m a).put (dstAt ops m) (vs m)

theorem putL_ge {vs : Nat → Value} {listed : Array Bool} {a : Act} {i : Nat} : ∀ m, m ≤ i → putL ops vs (listed.setIfInBounds i true) m a = putL ops vs listed m a
  | 0, _ => rfl
  | m + 1, h => by
    have ih := putL_ge (vs := vs) (listed := listed) (a := a) (i := i) m (by omega)
    simp only [putL, getD_set_ne false (show i ≠ m by omega), ih]
theorem putL_set {vs : Nat → Value} {listed : Array Bool} {a : Act} {i : Nat} (hun : listed.getD i true = false) : ∀ m, i < m →
    (∀ j k, j < m → k < m → j ≠ k → ∀ d, dstAt ops j = some d → dstAt ops k ≠ some d) → putL ops vs (listed.setIfInBounds i true) m a = (putL ops vs listed m a).put (dstAt ops i) (vs i)
  | 0, h, _ => absurd h (Nat.not_lt_zero i)
  | m + 1, h, hd => by
    have hlt : i < listed.size := by
      rcases Nat.lt_or_ge i listed.size with h' | h'
      · exact h'
      · simp [Array.getElem?_eq_none h'] at hun
    by_cases e : i = m
    · subst e
      have h0 : listed.getD i false = false := getD_both hun
      have h1 : (listed.setIfInBounds i true).getD i false = true := by simp [hlt]
      simp only [putL, h0, h1, putL_ge i (Nat.le_refl i), if_true]
      rfl
    · have ih := putL_set (vs := vs) (a := a) hun m (by omega) (fun j k hj hk => hd j k (by omega) (by omega))
      simp only [putL, getD_set_ne false e, ih]
      split
      · rw [Act.put_comm]
        intro d h1 h2
        exact hd i m (by omega) (by omega) e d h1 h2
      · rfl
theorem putL_all {vs : Nat → Value} {listed : Array Bool} {a : Act} : ∀ m, (∀ j, j < m → listed.getD j false = true) → putL ops vs listed m a = putA ops vs m a
  | 0, _ => rfl
  | m + 1, h => by
    simp only [putL, putA, h m (by omega), if_true, putL_all m (fun j hj => h j (by omega))]
theorem put_size (a : Act) (d : Option Tmp) (v : Value) : (a.put d v).tmps.size = a.tmps.size := by cases d <;> simp [Act.put]
theorem putL_size {vs : Nat → Value} {listed : Array Bool} {a : Act} : ∀ m, (putL ops vs listed m a).tmps.size = a.tmps.size
  | 0 => rfl
  | m + 1 => by
    simp only [putL]
    split
    · rw [put_size, putL_size m]
    · exact putL_size m
theorem putA_size {vs : Nat → Value} {a : Act} : ∀ m, (putA ops vs m a).tmps.size = a.tmps.size
  | 0 => rfl
  | m + 1 => by simp only [putA]; rw [put_size, putA_size m]
theorem put_get (a : Act) (d : Option Tmp) (v : Value) (t : Nat) : (a.put d v).tmps[t]? = if d = some t then (if t < a.tmps.size then some v else none) else a.tmps[t]? := by
  cases d with
  | none => simp [Act.put]
  | some d =>
    simp only [Act.put, Array.getElem?_setIfInBounds, Option.some.injEq]
    split
    · rename_i h; subst h; rfl
    · rfl
theorem put_agree {vs : Nat → Value} {listed : Array Bool} {a : Act} {t : Nat} : ∀ m, (∀ j, j < m → dstAt ops j = some t → listed.getD j false = true) →
    (putL ops vs listed m a).tmps[t]? = (putA ops vs m a).tmps[t]?
  | 0, _ => rfl
  | m + 1, h => by
    have ih := put_agree (vs := vs) (a := a) m (fun j hj => h j (by omega))
    by_cases e : dstAt ops m = some t
    · simp only [putL, putA, h m (by omega) e, if_true, put_get, e, putL_size, putA_size]
    · simp only [putL, putA, put_get, e, if_false]
      split
      · rw [put_get, if_neg e]; exact ih
      · exact ih

/-- How many of the first m are not listed yet. -/
def cntL (listed : Array Bool) : Nat → Nat
  | 0 => 0
  | m + 1 => cntL listed m + if listed.getD m true = false then 1 else 0
theorem cntL_ge {listed : Array Bool} {i : Nat} : ∀ m, m ≤ i → cntL (listed.setIfInBounds i true) m = cntL listed m
  | 0, _ => rfl
  | m + 1, h => by
    have ih := cntL_ge (listed := listed) (i := i) m (by omega)
    simp only [cntL, getD_set_ne true (show i ≠ m by omega), ih]
theorem cntL_set {listed : Array Bool} {i : Nat} (hun : listed.getD i true = false) : ∀ m, i < m → cntL listed m = cntL (listed.setIfInBounds i true) m + 1
  | 0, h => absurd h (Nat.not_lt_zero i)
  | m + 1, h => by
    by_cases e : i = m
    · subst e
      have h1 : (listed.setIfInBounds i true).getD i true = true := by
        rcases Nat.lt_or_ge i listed.size with h' | h'
        · simp [h']
        · simp [Array.getElem?_eq_none h'] at hun
      simp only [cntL, hun, h1, cntL_ge i (Nat.le_refl i), if_true]
      simp
    · have ih := cntL_set hun m (by omega)
      simp only [cntL, ih, getD_set_ne true e]
      omega
theorem cntL_zero {listed : Array Bool} : ∀ m, cntL listed m = 0 → ∀ j, j < m → listed.getD j true = true
  | 0, _, j, hj => absurd hj (Nat.not_lt_zero j)
  | m + 1, h, j, hj => by
    simp only [cntL] at h
    by_cases e : j = m
    · subst e
      cases hl : listed.getD j true
      · rw [hl] at h; simp at h
      · rfl
    · exact cntL_zero m (by omega) j (by omega)
theorem cntL_pos {listed : Array Bool} : ∀ m, 0 < cntL listed m → ∃ j, j < m ∧ listed.getD j true = false ∧ ∀ k, k < j → listed.getD k true = true
  | 0, h => absurd h (Nat.lt_irrefl 0)
  | m + 1, h => by
    by_cases h0 : 0 < cntL listed m
    · obtain ⟨j, hj, h1, h2⟩ := cntL_pos m h0
      exact ⟨j, by omega, h1, h2⟩
    · refine ⟨m, by omega, ?_, fun k hk => cntL_zero m (by omega) k hk⟩
      simp only [cntL] at h
      cases hl : listed.getD m true
      · rfl
      · rw [hl] at h; simp at h; omega

/-- The first n are listed, no other. -/
def headsOnly (n size : Nat) : Array Bool := Array.ofFn (n := size) fun i => decide (i.val < n)

/-- What is asked of the region's text. -/
def parB (ops : Array Oper) (n : Nat) : Bool :=
  Region.noSelect ops && decide (n ≤ ops.size) &&
  ((List.range n).all fun i => match ops[i]? with
    | none => false
    | some o => o.after.all (fun e => !Region.binds .any e || decide (e.on < i)) &&
      (List.range n).all fun j => match dstAt ops j with
        | none => true
        | some d => (j == i || dstAt ops i != some d) && (!(o.looksAt ops).contains d || o.after.any fun e => Region.binds .any e && e.on == j)) &&
  (n == ops.size || (Region.sinkB .any ops n && Region.chainB .any ops n)) && Region.seqB .any ops (ops.size - n) n (headsOnly n ops.size)

theorem looks_eval {o : Oper} {a a' : Act} (h : ∀ t, t ∈ o.looksAt ops → a.tmps[t]? = a'.tmps[t]?) : (∀ x ∈ o.op.operands, a.eval x = a'.eval x) ∧
    Region.wanted o (yielded ops a.tmps) = Region.wanted o (yielded ops a'.tmps) := by
  constructor
  · intro x hx
    cases x with
    | tmp t =>
      have h1 := h t (List.mem_append_left _ (List.mem_filterMap.2 ⟨.tmp t, by simpa using hx, rfl⟩))
      simp only [Act.eval, Array.getD_eq_getD_getElem?, h1]
    | const v => rfl
    | global g => rfl
    | func f => rfl
  · unfold Region.wanted
    cases hg : o.guard with
    | none => rfl
    | some gw =>
      obtain ⟨g, want⟩ := gw
      have hy : yielded ops a.tmps g = yielded ops a'.tmps g := by
        unfold yielded
        cases ht : (ops[g]?).bind (·.dst) with
        | none => rfl
        | some t => simp only [Option.bind_some, h t (List.mem_append_right _ (by simp [hg, ht]))]
      simp only [hy]

theorem gives_wp {o : Oper} {v : Value} {A a : Act} {w : World} {R : World → Prop} {K : Act → World → Prop} {i : Nat} (hi : ops[i]? = some o)
    (hs : ∀ cs b, o.op ≠ .select cs b) (hl : ∀ t, t ∈ o.looksAt ops → a.tmps[t]? = A.tmps[t]?) (h : Gives P ops A R o v w) (hK : ∀ w', R w' → K (a.put o.dst v) w') : wpOp P ops Q i K a w := by
  obtain ⟨h1, h2⟩ := looks_eval hl
  unfold wpOp
  simp only [hi, h2]
  unfold Gives at h
  split at h
  · rename_i hw
    rw [if_pos hw]
    refine .inl ?_
    unfold Oper.wp
    rw [execOp_congr o hs h1]
    revert h
    generalize (execOp A.eval o).run P w = r
    intro h
    cases r with
    | halt x w' => exact absurd h (by simp)
    | ok n w' =>
      cases n <;> simp only [Oper.upon] at h ⊢
      case value u => obtain ⟨rfl, hR⟩ := h; exact hK w' hR
      case enter f args =>
        refine Calls.mono h fun e w'' he => ?_
        obtain ⟨rfl, hR⟩ := he
        exact hK w'' hR
  · rename_i hw
    rw [if_neg hw]
    obtain ⟨rfl, hR⟩ := h
    exact hK w hR

theorem par_run {n g : Nat} {a : Act} {vs : Nat → Value} {R : World → Prop} (hB : parB ops n = true)
    (hop : ∀ i o, i < n → ops[i]? = some o → ∀ w, R w → Gives P ops (putA ops vs n a) R o (vs i) w)
    (hT : ∀ listed w, HeadInv .any ops n listed → (∀ j, j < n → listed.getD j false = true) → R w → wpAny P .any ops Q g listed (putA ops vs n a) w) :
    ∀ c listed w, HeadInv .any ops n listed → cntL listed n = c → R w → wpAny P .any ops Q (c + g) listed (putL ops vs listed n a) w := by
  simp only [parB, Bool.and_eq_true, decide_eq_true_eq, List.all_eq_true, List.mem_range] at hB
  obtain ⟨⟨⟨⟨hsel, hn⟩, hhead⟩, htail⟩, _⟩ := hB
  have hd : ∀ j k, j < n → k < n → j ≠ k → ∀ d, dstAt ops j = some d → dstAt ops k ≠ some d := fun j k hj hk hne d h1 h2 => by
    have h3 := hhead k hk
    cases ho : ops[k]? with
    | none => simp [ho] at h3
    | some o =>
      simp only [ho, Bool.and_eq_true, List.all_eq_true, List.mem_range] at h3
      have h4 := h3.2 j hj
      simp only [h1, h2, Bool.and_eq_true, Bool.or_eq_true, beq_iff_eq, bne_self_eq_false, Bool.false_eq_true, or_false] at h4
      exact hne h4.1
  intro c
  induction c with
  | zero =>
    intro listed w inv hc hR
    have hall : ∀ j, j < n → listed.getD j false = true := fun j hj => by
      have h1 := cntL_zero n hc j hj
      have h2 : j < listed.size := by rw [inv.size]; omega
      simpa [h2] using h1
    rw [putL_all n hall, Nat.zero_add]
    exact hT listed w inv hall hR
  | succ c ih =>
    intro listed w inv hc hR
    obtain ⟨m, hm, hun, hlow⟩ := cntL_pos n (by omega : 0 < cntL listed n)
    have hmr : m ∈ Region.ready .any ops listed := by
      rw [mem_ready]
      have h3 := hhead m hm
      cases ho : ops[m]? with
      | none => simp [ho] at h3
      | some o =>
        refine ⟨hun, o, rfl, fun e he hb => ?_⟩
        simp only [ho, Bool.and_eq_true, Array.all_eq_true_iff_forall_mem, Bool.or_eq_true, Bool.not_eq_true', decide_eq_true_eq] at h3
        have h4 := (h3.1 e he).resolve_left (by simp [hb])
        have h5 := hlow e.on h4
        have h6 : e.on < listed.size := by rw [inv.size]; omega
        simpa [h6] using h5
    rw [show c + 1 + g = (c + g) + 1 by omega]
    refine ⟨fun h0 => (by rw [h0] at hmr; cases hmr), fun i hi => ?_⟩
    have hin : i < n := by
      rcases Nat.lt_or_ge i n with h | h
      · exact h
      · obtain ⟨_, o, ho, _⟩ := mem_ready.1 hi
        have hio : i < ops.size := (Array.getElem?_eq_some_iff.1 ho).1
        simp only [Bool.or_eq_true, beq_iff_eq, Bool.and_eq_true] at htail
        rcases htail with h1 | ⟨h1, h2⟩
        · omega
        · exact absurd hi (tail_waits h1 h2 (by omega) inv _ m rfl hm hun i h)
    obtain ⟨hiun, o, ho, hall⟩ := mem_ready.1 hi
    have hdst : o.dst = dstAt ops i := by simp [dstAt, ho]
    refine gives_wp ho (fun cs b => Region.noSelect_spec hsel i o cs b ho) (fun t ht => put_agree n fun j hj hjd => ?_) (hop i o hin ho w hR) fun w' hR' => ?_
    · have h3 := hhead i hin
      simp only [ho, Bool.and_eq_true, List.all_eq_true, List.mem_range] at h3
      have h4 := h3.2 j hj
      simp only [hjd, Bool.and_eq_true, Bool.or_eq_true, Bool.not_eq_true', List.contains_eq_mem, decide_eq_false_iff_not] at h4
      rcases h4.2 with h5 | h5
      · exact absurd ht h5
      · obtain ⟨e, he, hb⟩ := Array.any_eq_true'.1 h5
        simp only [Bool.and_eq_true, beq_iff_eq] at hb
        rw [← hb.2]
        exact hall e he hb.1
    · rw [hdst, ← putL_set hiun n hin hd]
      exact ih _ w' (inv.set hi hin) (by have := cntL_set hiun n hin; omega) hR'

/-- A fact for each operation. -/
def GiveAll (P : Program) (ops : Array Oper) (A : Act) (R : World → Prop) : List Oper → List Value → Prop
  | [], _ => True
  | _ :: _, [] => False
  | o :: os, v :: vs => (∀ w, R w → Gives P ops A R o v w) ∧ GiveAll P ops A R os vs
theorem GiveAll.at_ {A : Act} {R : World → Prop} : ∀ (os : List Oper) (vs : List Value), GiveAll P ops A R os vs → ∀ i o, os[i]? = some o → ∀ w, R w → Gives P ops A R o (vs.getD i undef) w
  | [], _, _, i, o, h, _, _ => by simp at h
  | _ :: _, [], hg, _, _, _, _, _ => absurd hg (by simp [GiveAll])
  | o :: os, v :: vs, hg, 0, o', h, w, hR => by
    have : o = o' := by simpa using h
    subst this
    exact hg.1 w hR
  | o :: os, v :: vs, hg, i + 1, o', h, w, hR => by
    have := GiveAll.at_ os vs hg.2 i o' (by simpa using h) w hR
    simpa using this

/-- **A region that draws its order: its first n operations leave the values vs, each by its own fact, R holding all the while; then the rest, one behind the other.** -/
theorem wp_region_par {id : Nat} {l : List Oper} {a : Act} {w : World} (n : Nat) (vs : List Value) (R : World → Prop) (A : Act) (hm : P.follows .mixedOrders = true) (hB : parB l.toArray n = true)
    (hA : putA l.toArray (fun i => vs.getD i undef) n a = A) (hR : R w.drew) (hop : GiveAll P l.toArray A R (l.take n) vs)
    (hT : ∀ w', R w' → wpList P l.toArray Q (l.drop n) A w') : (Code.region id l.toArray true).wp P Q a w := by
  subst hA
  have hB' := hB
  simp only [parB, Bool.and_eq_true, decide_eq_true_eq] at hB'
  obtain ⟨⟨⟨⟨_, hn⟩, _⟩, _⟩, hseq⟩ := hB'
  have hn' : n ≤ l.length := by simpa using hn
  have inv0 : HeadInv .any l.toArray n (Array.replicate l.toArray.size false) :=
    ⟨by simp, fun j oj _ hl => (by rw [getD_replicate_false] at hl; cases hl), fun t _ ht => getD_in (by simpa using ht) (getD_replicate_false _ _)⟩
  have hcnt : ∀ m, m ≤ l.toArray.size → cntL (Array.replicate l.toArray.size false) m = m := fun m hm' => by
    induction m with
    | zero => rfl
    | succ m ih =>
      have h1 : (Array.replicate l.toArray.size false).getD m true = false := getD_in (by simp at hm' ⊢; omega) (getD_replicate_false _ _)
      simp only [cntL, ih (by omega), h1, if_true]
  have hput : ∀ m, putL l.toArray (fun i => vs.getD i undef) (Array.replicate l.toArray.size false) m a = a := fun m => by
    induction m with
    | zero => rfl
    | succ m ih => simp only [putL, getD_replicate_false, Bool.false_eq_true, if_false, ih]
  refine wp_region_any hm ?_
  have H := par_run (P := P) (Q := Q) (g := l.toArray.size - n) (a := a) (vs := fun i => vs.getD i undef) (R := R) hB
    (fun i o hi ho w' hR' => hop.at_ _ _ i o (by simpa [hi] using ho) w' hR')
    (fun listed w' inv hall hR' => by
      have e : listed = headsOnly n l.toArray.size := by
        refine Array.ext_getElem? fun j => ?_
        rcases Nat.lt_or_ge j l.toArray.size with hj | hj
        · have h1 : j < listed.size := by rw [inv.size]; exact hj
          have h2 : j < l.length := by simpa using hj
          rcases Nat.lt_or_ge j n with h | h
          · have h3 := hall j h
            simp [h1] at h3
            simp [headsOnly, h1, h2, h3, h]
          · have h3 := inv.tail j h hj
            simp [h1] at h3
            have h4 : ¬ j < n := by omega
            simp [headsOnly, h1, h2, h3, h4]
        · rw [Array.getElem?_eq_none (by rw [inv.size]; exact hj), Array.getElem?_eq_none (by simpa [headsOnly] using hj)]
      subst e
      have hl : (l.drop n).length = l.toArray.size - n := by simp
      have := wpAny_of_seq (md := .any) (Q' := Q) (l.drop n) n (headsOnly n l.toArray.size) (putA l.toArray (fun i => vs.getD i undef) n a) w' (fun j => by simp [List.getElem?_drop]) (by rw [hl]; exact hseq) (hT w' hR')
      rwa [hl] at this)
    n (Array.replicate l.toArray.size false) w.drew inv0 (hcnt n hn) hR
  rw [hput, show n + (l.toArray.size - n) = l.toArray.size by omega] at H
  exact H
end
end Go.Proofs.Ytcgceigcegddlaa.Par
