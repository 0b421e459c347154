/- Values that lie in blocks: kept, stored. -/
import Derived.Test.YtkgjfedpjbnjkaaDoorO
import Derived.Deep.RegionHeld3
import Derived.Deep.RegionWith
import Derived.Deep.DeepCutAuto
namespace Go.Proofs.YtkgjfedpjbnjkaaDoor
open Go Go.RowKit

/-- A value lies in block g, cell by cell. -/
def Box (w : World) (g : Nat) (k n : Int) (s : ByteArray) : Prop :=
  g < w.heap.size ∧ w.cell? ⟨g, 0, none⟩ = some (.int .i64 k) ∧ w.cell? ⟨g, 1, none⟩ = some (.int .i64 n) ∧ w.cell? ⟨g, 2, none⟩ = some (.string s) ∧ w.frozen? ⟨g, 0, none⟩ = false ∧ w.frozen? ⟨g, 1, none⟩ = false ∧ w.frozen? ⟨g, 2, none⟩ = false
theorem Box.on {w w' : World} {g : Nat} {k n : Int} {s : ByteArray} (h : Box w g k n s) (hb : Below w.heap.size w w') : Box w' g k n s := by
  obtain ⟨hc, hf⟩ := bcell hb
  obtain ⟨h0, h1, h2, h3, h4, h5, h6⟩ := h
  exact ⟨Nat.lt_of_lt_of_le h0 hb.size, by rw [hc _ _ h0]; exact h1, by rw [hc _ _ h0]; exact h2, by rw [hc _ _ h0]; exact h3, by rw [hf _ _ h0]; exact h4, by rw [hf _ _ h0]; exact h5, by rw [hf _ _ h0]; exact h6⟩
theorem Box.drew {w : World} {g : Nat} {k n : Int} {s : ByteArray} (h : Box w g k n s) : Box w.drew g k n s := h.on (Below.refl _ _).drew
theorem box_new (w : World) (k n : Int) (s : ByteArray) : Box (w.alloc (.cells #[.int .i64 k, .int .i64 n, .string s] 23)) w.heap.size k n s := by
  refine ⟨by simp, ?_, ?_, ?_, ?_, ?_, ?_⟩ <;> first | (rw [World.cell?_alloc_mark]; rfl) | simp
theorem cell_other (w : World) (g i j : Nat) (v : Value) (h : i ≠ j) : (w.setCell ⟨g, i, none⟩ v).cell? ⟨g, j, none⟩ = w.cell? ⟨g, j, none⟩ :=
  World.cell?_setCell_other _ _ _ _ (by intro e; cases e; exact h rfl)
/-- A value is stored whole. -/
theorem Box.stored {w : World} {g : Nat} {k n : Int} {s : ByteArray} (h : Box w g k n s) (k' n' : Int) (s' : ByteArray) :
    Box (((w.setCell ⟨g, 0, none⟩ (.int .i64 k')).setCell ⟨g, 1, none⟩ (.int .i64 n')).setCell ⟨g, 2, none⟩ (.string s')) g k' n' s' := by
  obtain ⟨h0, h1, h2, h3, h4, h5, h6⟩ := h
  have e1 : (w.setCell ⟨g, 0, none⟩ (.int .i64 k')).cell? ⟨g, 1, none⟩ = some (.int .i64 n) := by rw [cell_other _ g 0 1 _ (by decide)]; exact h2
  have e2 : ((w.setCell ⟨g, 0, none⟩ (.int .i64 k')).setCell ⟨g, 1, none⟩ (.int .i64 n')).cell? ⟨g, 2, none⟩ = some (.string s) := by rw [cell_other _ g 1 2 _ (by decide), cell_other _ g 0 2 _ (by decide)]; exact h3
  refine ⟨by simp [World.setCell]; exact h0, ?_, ?_, ?_, ?_, ?_, ?_⟩
  · rw [cell_other _ g 2 0 _ (by decide), cell_other _ g 1 0 _ (by decide)]; exact World.cell?_setCell_same _ _ _ h1
  · rw [cell_other _ g 2 1 _ (by decide)]; exact World.cell?_setCell_same _ _ _ e1
  · exact World.cell?_setCell_same _ _ _ e2
  · simp only [World.frozen?_setCell]; exact h4
  · simp only [World.frozen?_setCell]; exact h5
  · simp only [World.frozen?_setCell]; exact h6
/-- A cell of another block is stored. -/
theorem Box.beside {w : World} {g : Nat} {k n : Int} {s : ByteArray} (h : Box w g k n s) (p : Addr) (v : Value) (hne : p.block ≠ g) : Box (w.setCell p v) g k n s := by
  obtain ⟨h0, h1, h2, h3, h4, h5, h6⟩ := h
  refine ⟨by simp [World.setCell]; exact h0, ?_, ?_, ?_, ?_, ?_, ?_⟩
  · rw [World.cell?_setCell_far _ _ _ _ (by exact hne)]; exact h1
  · rw [World.cell?_setCell_far _ _ _ _ (by exact hne)]; exact h2
  · rw [World.cell?_setCell_far _ _ _ _ (by exact hne)]; exact h3
  · simp only [World.frozen?_setCell]; exact h4
  · simp only [World.frozen?_setCell]; exact h5
  · simp only [World.frozen?_setCell]; exact h6
theorem Box.beside3 {w : World} {g g' : Nat} {k n : Int} {s : ByteArray} (h : Box w g k n s) (hne : g' ≠ g) (v0 v1 v2 : Value) : Box (((w.setCell ⟨g', 0, none⟩ v0).setCell ⟨g', 1, none⟩ v1).setCell ⟨g', 2, none⟩ v2) g k n s :=
  ((h.beside _ _ hne).beside _ _ hne).beside _ _ hne
theorem below_set3 {B : Nat} {w w' : World} (h : Below B w w') {g : Nat} (hg : B ≤ g) (v0 v1 v2 : Value) : Below B w (((w'.setCell ⟨g, 0, none⟩ v0).setCell ⟨g, 1, none⟩ v1).setCell ⟨g, 2, none⟩ v2) :=
  ((h.setCell hg _).setCell hg _).setCell hg _

/-- Both values cut, and stored where they lie: what is left. -/
theorem two_stored {w wb : World} {ga gb : Nat} {k1 n1 k2 n2 : Int} {s1 s2 : ByteArray} {B : Nat} {w0 : World} (A : Box w ga k1 n1 s1) (Bx : Box w gb k2 n2 s2) (hne : ga ≠ gb) (h1 : B ≤ ga) (h2 : B ≤ gb) (hb0 : Below B w0 w) (hB : B ≤ w.heap.size) (hb : Below w.heap.size w wb) (t1 t2 : ByteArray) :
    let w3 := ((wb.setCell ⟨ga, 0, none⟩ (.int .i64 k1)).setCell ⟨ga, 1, none⟩ (.int .i64 n1)).setCell ⟨ga, 2, none⟩ (.string t1)
    let w6 := ((w3.setCell ⟨gb, 0, none⟩ (.int .i64 k2)).setCell ⟨gb, 1, none⟩ (.int .i64 n2)).setCell ⟨gb, 2, none⟩ (.string t2)
    Box w6 ga k1 n1 t1 ∧ Box w6 gb k2 n2 t2 ∧ Below B w0 w6 := by
  intro w3 w6
  have A1 := (A.on hb).stored k1 n1 t1
  have B1 := (Bx.on hb).beside3 hne (.int .i64 k1) (.int .i64 n1) (.string t1)
  refine ⟨A1.beside3 hne.symm _ _ _, B1.stored k2 n2 t2, below_set3 (below_set3 (hb0.trans (hb.mono hB)) h1 _ _ _) h2 _ _ _⟩
theorem held_on {w w' : World} {g : Nat} {k1 n1 k2 n2 : Int} {s1 s2 : ByteArray}
    (h : g + 1 < w.heap.size ∧ w.cell? ⟨g, 0, none⟩ = some (.int .i64 k1) ∧ w.cell? ⟨g, 1, none⟩ = some (.int .i64 n1) ∧ w.cell? ⟨g, 2, none⟩ = some (.string s1) ∧
      w.cell? ⟨g + 1, 0, none⟩ = some (.int .i64 k2) ∧ w.cell? ⟨g + 1, 1, none⟩ = some (.int .i64 n2) ∧ w.cell? ⟨g + 1, 2, none⟩ = some (.string s2)) (hb : Below w.heap.size w w') :
    g + 1 < w'.heap.size ∧ w'.cell? ⟨g, 0, none⟩ = some (.int .i64 k1) ∧ w'.cell? ⟨g, 1, none⟩ = some (.int .i64 n1) ∧ w'.cell? ⟨g, 2, none⟩ = some (.string s1) ∧
      w'.cell? ⟨g + 1, 0, none⟩ = some (.int .i64 k2) ∧ w'.cell? ⟨g + 1, 1, none⟩ = some (.int .i64 n2) ∧ w'.cell? ⟨g + 1, 2, none⟩ = some (.string s2) := by
  obtain ⟨h0, h1, h2, h3, h4, h5, h6⟩ := h
  obtain ⟨hc, _⟩ := bcell hb
  have hs := hb.size
  refine ⟨by omega, ?_, ?_, ?_, ?_, ?_, ?_⟩
  · rw [hc _ _ (by omega)]; exact h1
  · rw [hc _ _ (by omega)]; exact h2
  · rw [hc _ _ (by omega)]; exact h3
  · rw [hc _ _ h0]; exact h4
  · rw [hc _ _ h0]; exact h5
  · rw [hc _ _ h0]; exact h6
theorem refMay_is (k n : Int) (s : ByteArray) (b : Bool) (w : World) (hs : s.size ≤ maxLen) (h : mayV k n s.data.toList = b) :
    Calls Tryd.prog 14 #[.agg #[.int .i64 k, .int .i64 n, .string s]] w fun e w' => e = .returned (.bool b) ∧ Below w.heap.size w w' := by
  subst h; exact refMay_any k n s w hs
end Go.Proofs.YtkgjfedpjbnjkaaDoor
