/- DepChain: its table, in plain and in memory. -/
import Derived.Test.YtmfkkpogmmoflaaVI
import Derived.Laws.IdiomStrings
namespace Go.Proofs.Ytmfkkpogmmoflaa
open Go Go.RowKit Go.Proofs

theorem conv2 {w : World} {g : Nat} {a c : Int} {v u : UInt8} (h : w.heap[g]? = some (.cells #[.int .u8 a, .int .u8 c] 5)) (ha : (v.toNat : Int) = a) (hc : (u.toNat : Int) = c) : (convert 46 9 (.slice (some ⟨g, 0, none⟩) 2 2)).run Try.prog w = .ok (.string ⟨#[v, u]⟩) w := by
  subst hc ha
  exact run_convert_bytes_back (P := Try.prog) w 46 9 5 ⟨g, 0, none⟩ 2 [v, u] Try.underlying46 Try.underlying5 Try.underlying9 (fun j hj => by
    rcases j with _ | _ | j
    · exact nd_cell h 0
    · exact nd_cell h 1
    · simp at hj; omega)
abbrev zT : ByteArray := ⟨#[116]⟩
def cN (i : Nat) : ByteArray := ⟨#[99, UInt8.ofNat (48 + i)]⟩
def colN (i : Nat) : C := ⟨cN i, 1, true, e0⟩
def depN (i : Nat) : D := ⟨[cN i], cN (i + 1)⟩
def colsN (n : Nat) : List C := (List.range n).map colN
def depsN (n : Nat) : List D := (List.range n).map depN
def tabN (n : Nat) : T := ⟨zT, colsN n, e0, depsN (n - 1)⟩
def ksN (n : Nat) : List T := [formT (tabN n)]
def allN (n : Nat) : List (List ByteArray) := (List.range n).map fun i => [cN i]
theorem colsN_len (n : Nat) : (colsN n).length = n := by simp [colsN]
theorem depsN_len (n : Nat) : (depsN n).length = n := by simp [depsN]
theorem colsN_succ (n : Nat) : colsN (n + 1) = colsN n ++ [colN n] := by unfold colsN; rw [List.range_succ, List.map_append]; rfl
theorem depsN_succ (n : Nat) : depsN (n + 1) = depsN n ++ [depN n] := by unfold depsN; rw [List.range_succ, List.map_append]; rfl
theorem colsN_at {n i : Nat} (h : i < (colsN n).length) : (colsN n)[i] = colN i := by simp [colsN]
theorem u8_N : ∀ i, i < 5 → ((UInt8.ofNat (48 + i)).toNat : Int) = 48 + (i : Int) := by decide +kernel
theorem may_N : ∀ n, n < 5 → 1 < n → mayP [] (tabN n) = 0 := by decide +kernel
theorem kept_N {n : Nat} (h : n < 5) (h1 : 1 < n) : kept [tabN n] [tabN n].length = ksN n := by
  show addT [] (tabN n) = _
  unfold addT
  rw [if_pos (may_N n h h1)]; rfl
theorem few_N {n : Nat} (h : n < 5) (h1 : 1 < n) : AllFew (ksN n) := kept_N h h1 ▸ (kept_inv [tabN n] _).2
theorem fine_N {n : Nat} (h : n < 5) (h1 : 1 < n) : Fine (ksN n) := kept_N h h1 ▸ Fine.kept Fine.nil
theorem sm_N (n : Nat) : ∀ t ∈ [tabN n], Sm t := by
  intro t ht
  rw [List.mem_singleton] at ht
  subst ht
  refine ⟨show (1 : Nat) ≤ maxLen by decide, fun x hx => ?_⟩
  have hx : x ∈ colsN n := hx
  unfold colsN at hx
  obtain ⟨i, _, rfl⟩ := List.mem_map.1 hx
  exact show (2 : Nat) ≤ maxLen by decide
theorem all_Np : ∀ n, n < 5 → (allN n).Pairwise (fun a b => cmpP a b < 0) := by decide +kernel
theorem all_Nq : ∀ n, n < 5 → 1 < n → (allN n).Perm (waysP (ksN n) 4 zT []) := by decide +kernel
theorem all_N {n : Nat} (h : n < 5) (h1 : 1 < n) : IsAll (ksN n) zT (allN n) := ⟨all_Np n h, all_Nq n h h1⟩
theorem cl_N : ∀ n, n < 5 → 1 < n → ∀ f, f < n → ∀ t, t < n → inP (closW (ksN n) zT (allN n) [[cN f]]) [cN t] = decide (f ≤ t) := by decide +kernel
theorem len_N : ∀ n, n < 5 → 1 < n → ∀ f, f < n → (closW (ksN n) zT (allN n) [[cN f]]).length = n - f := by decide +kernel
/-- The table, as far as it is made. -/
structure CH (S : Nat) (w0 : World) (i m : Nat) (cv dv : Value) (ps : List Value) (w : World) : Prop where
  box : w.heap[S]? = some (boxT zT cv e0 dv)
  c : HRow w (S + 1) 38 4 cv i (cellsC (colsN i))
  d : DepsI w (S + 1) dv (depsN m) ps
  below : Below S w0 w
section
variable {S : Nat} {w0 w w' : World} {i m : Nat} {cv dv cv' dv' lv : Value} {ps : List Value}
theorem CH.sz (h : CH S w0 i m cv dv ps w) : S + 1 ≤ w.heap.size := lt_of_heap h.box
theorem CH.on (h : CH S w0 i m cv dv ps w) (hb : Below w.heap.size w w') : CH S w0 i m cv dv ps w' :=
  ⟨heap_on hb h.box, h.c.later hb, h.d.later hb, h.below.trans (hb.mono (by have := h.sz; omega))⟩
theorem CH.col (h : CH S w0 i m cv dv ps w) (hr : HRow w' (S + 1) 38 4 cv' (i + 1) (cellsC (colsN (i + 1)))) (hg : w.grownBy w' cv.ownBlock) : w'.heap[S]? = some (boxT zT cv e0 dv) ∧ CH S w0 (i + 1) m cv' dv ps (w'.setCell ⟨S, 1, none⟩ cv') := by
  have hb := below_row (n := S + 1) h.c hg (Nat.le_refl _) h.sz
  have hx := (hb.block S (by omega)).trans h.box
  have ho : ∀ q : Nat, q ≠ S → (w'.setCell ⟨S, 1, none⟩ cv').heap[q]? = w'.heap[q]? := fun q hq => heap_setCell_other w' ⟨S, 1, none⟩ q _ hq
  refine ⟨hx, heap_setCell_same w' S 1 _ _ _ hx, hr.of (fun q hq => ho q (by have := (hr.lt q hq).1; omega)), ?_, (h.below.trans (hb.mono (by omega))).trans (below_set w' _ _ (Nat.le_refl S))⟩
  exact ⟨h.d.n, (h.d.d.beside h.c (by decide) hg).of (fun q hq => ho q (by have := (h.d.d.lt q hq).1; omega)), fun j a b => ((h.d.l j a b).beside h.c (by decide) hg).of (fun q hq => ho q (by have := ((h.d.l j a b).lt q hq).1; omega))⟩
theorem CH.dep (h : CH S w0 i m cv dv ps w) (hl : HRow w (S + 1) 9 1 lv 1 (cellsS [cN m])) (hr : HRow w' (S + 1) 41 2 dv' (m + 1) (cellsD ps (depsN m) ++ [lv, .string (cN (m + 1))])) (hg : w.grownBy w' dv.ownBlock) : w'.heap[S]? = some (boxT zT cv e0 dv) ∧ CH S w0 i (m + 1) cv dv' (ps ++ [lv]) (w'.setCell ⟨S, 3, none⟩ dv') := by
  have hb := below_row (n := S + 1) h.d.d hg (Nat.le_refl _) h.sz
  have hx := (hb.block S (by omega)).trans h.box
  have ho : ∀ q : Nat, q ≠ S → (w'.setCell ⟨S, 3, none⟩ dv').heap[q]? = w'.heap[q]? := fun q hq => heap_setCell_other w' ⟨S, 3, none⟩ q _ hq
  have hd := h.d.snoc (d := depN m) hl (by rw [depsN_len]; exact hr) hg
  rw [← depsN_succ] at hd
  refine ⟨hx, heap_setCell_same w' S 3 _ _ _ hx, (h.c.beside h.d.d (by decide) hg).of (fun q hq => ho q (by have := (h.c.lt q hq).1; omega)), ?_, (h.below.trans (hb.mono (by omega))).trans (below_set w' _ _ (Nat.le_refl S))⟩
  exact ⟨hd.n, hd.d.of (fun q hq => ho q (by have := (hd.d.lt q hq).1; omega)), fun j a b => (hd.l j a b).of (fun q hq => ho q (by have := ((hd.l j a b).lt q hq).1; omega))⟩
/-- A dep's left and right in new blocks. -/
def dlV (B : Nat) (x r : ByteArray) : Par.VW := ⟨fun v w => ∃ g, B ≤ g ∧ v = .agg #[.slice (some ⟨g, 0, none⟩) 1 1, .string r] ∧ w.heap[g]? = some (.cells #[.string x] 9), fun _ _ _ ⟨g, h1, h2, h3⟩ hb => ⟨g, h1, h2, heap_on hb h3⟩⟩
def dsV (B : Nat) (x r : ByteArray) : Par.VW := ⟨fun v w => ∃ G g, B ≤ g ∧ v = .slice (some ⟨G, 0, none⟩) 1 1 ∧ w.heap[G]? = some (.cells #[.slice (some ⟨g, 0, none⟩) 1 1, .string r] 41) ∧ w.heap[g]? = some (.cells #[.string x] 9), fun _ _ _ ⟨G, g, h1, h2, h3, h4⟩ hb => ⟨G, g, h1, h2, heap_on hb h3, heap_on hb h4⟩⟩
/-- One way in a row of its own. -/
def rwV (x : ByteArray) : Par.VW := ⟨fun v w => ∃ G g, v = .slice (some ⟨G, 0, none⟩) 1 1 ∧ w.heap[G]? = some (.cells #[.slice (some ⟨g, 0, none⟩) 1 1] 34) ∧ w.heap[g]? = some (.cells #[.string x] 9), fun _ _ _ ⟨G, g, h2, h3, h4⟩ hb => ⟨G, g, h2, heap_on hb h3, heap_on hb h4⟩⟩
def lnV (m : Nat) : Par.VW := ⟨fun v _ => ∃ p c, v = .slice p m c, fun _ _ _ h _ => h⟩
theorem word_own {w : World} {B g : Nat} {x : ByteArray} (hB : B ≤ g) (h : w.heap[g]? = some (.cells #[.string x] 9)) : HRow w B 9 1 (.slice (some ⟨g, 0, none⟩) 1 1) 1 (cellsS [x]) :=
  ⟨rfl, .inr ⟨g, 1, _, rfl, hB, h, Nat.le_refl _, by decide, Nat.le_refl 1, rfl⟩⟩
theorem CH.rd (h : CH S w0 i (i - 1) cv dv ps w) : RdT w cv dv (tabN i) := by
  refine ⟨?_, ps, h.d.n, HRow.rd h.d.d (by decide) (by decide), fun j a b => HRow.rd (h.d.l j a b) (by decide) (by decide)⟩
  have := HRow.rd h.c (by decide) (by decide)
  unfold RdC
  show Rd w cv (colsN i).length 4 _
  rw [colsN_len]
  exact this
end
end Go.Proofs.Ytmfkkpogmmoflaa
