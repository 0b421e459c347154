import Derived.Test.YtieohdlmighmkaaEq2
namespace Go.Proofs.Ytieohdlmighmkaa
open Go Go.RowKit Go.Shelf Go.Proofs

/-- A range over an iterator that lays its values straight into the frame. -/
theorem wpIn_rangeFunc_skip {α : Type} {n : Nat} {P : Program} {g : Operand} {ps : Array Tmp} {body : Code} {Q : Exit → Act → World → Prop} {a : Act} {w : World}
    {sv : Value} (hg : a.eval g = sv) {encs : α → Array Value} {xs : List α} {M Mm : Nat → Prop} {Qi : Nat → World → Prop} (hgv : Gives P sv encs xs M Mm Qi) (hps : ∀ x, (encs x).size = ps.size)
    (I : Nat → (Nat → Prop) → World → Prop) (Ix : Code → Nat → (Nat → Prop) → World → Prop) (hI : ∀ k, Loc (I k)) (hIx : ∀ c k, Loc (Ix c k))
    (S : Nat → Prop) (hS : InW S w) (hM : InW M w) (hSM : ∀ b, S b → ¬ M b) (hQ : Qi 0 w) (h0 : I 0 S w)
    (hbody : ∀ (l k : Nat) (hk : k < xs.length) S1 W1, InW S1 W1 → Chg (fun b => S b ∨ Mm b) w W1 → I k S1 W1 →
      body.wpIn (Fence.wide.inRound l) 0 P (sepPost I Ix (k + 1) S1 W1) { tmps := (ps.zip (encs xs[k])).foldl (fun t (p, v) => t.setIfInBounds p v) a.tmps, defers := [] } W1)
    (hdone : ∀ S' W', Grows S S' w → InW S' W' → Chg (fun b => S b ∨ Mm b) w W' → I xs.length S' W' → Qi xs.length W' → W'.heap[w.heap.size]? = some (.deferred (some [])) → ¬ S' w.heap.size →
      Q .normal { a with defers := markAt w.heap.size :: a.defers } W')
    (hstop : ∀ c k S' W', 0 < k → k ≤ xs.length → Grows S S' w → InW S' W' → Chg (fun b => S b ∨ Mm b) w W' → Ix c k S' W' → Qi k W' → W'.heap[w.heap.size]? = some (.deferred (some [])) → ¬ S' w.heap.size →
      c.wpIn Fence.wide n P Q { a with defers := markAt w.heap.size :: a.defers } W') :
    (Code.rangeFunc g ps .skip body).wpIn Fence.wide n P Q a w :=
  wpIn_rangeFunc_sep hg hgv hps I Ix hI hIx S hS hM hSM hQ h0 (fun x => { tmps := (ps.zip (encs x)).foldl (fun t (p, v) => t.setIfInBounds p v) a.tmps, defers := [] }) (fun _ _ _ _ hK => wpIn_skip hK) hbody hdone hstop
end Go.Proofs.Ytieohdlmighmkaa
