/- Three values that lie in blocks: kept, stored. -/
import Derived.Test.YtkgjfedpjbnjkaaDoorQ
namespace Go.Proofs.YtkgjfedpjbnjkaaDoor
open Go Go.RowKit

theorem held_on3 {w w' : World} {ga gb gc : Nat} {k1 n1 k2 n2 k3 n3 : Int} {s1 s2 s3 : ByteArray}
    (h : ga < w.heap.size ∧ gb < w.heap.size ∧ gc < w.heap.size ∧ w.cell? ⟨ga, 0, none⟩ = some (.int .i64 k1) ∧ w.cell? ⟨ga, 1, none⟩ = some (.int .i64 n1) ∧ w.cell? ⟨ga, 2, none⟩ = some (.string s1) ∧ w.cell? ⟨gb, 0, none⟩ = some (.int .i64 k2) ∧ w.cell? ⟨gb, 1, none⟩ = some (.int .i64 n2) ∧ w.cell? ⟨gb, 2, none⟩ = some (.string s2) ∧ w.cell? ⟨gc, 0, none⟩ = some (.int .i64 k3) ∧ w.cell? ⟨gc, 1, none⟩ = some (.int .i64 n3) ∧ w.cell? ⟨gc, 2, none⟩ = some (.string s3)) (hb : Below w.heap.size w w') :
    ga < w'.heap.size ∧ gb < w'.heap.size ∧ gc < w'.heap.size ∧ w'.cell? ⟨ga, 0, none⟩ = some (.int .i64 k1) ∧ w'.cell? ⟨ga, 1, none⟩ = some (.int .i64 n1) ∧ w'.cell? ⟨ga, 2, none⟩ = some (.string s1) ∧ w'.cell? ⟨gb, 0, none⟩ = some (.int .i64 k2) ∧ w'.cell? ⟨gb, 1, none⟩ = some (.int .i64 n2) ∧ w'.cell? ⟨gb, 2, none⟩ = some (.string s2) ∧ w'.cell? ⟨gc, 0, none⟩ = some (.int .i64 k3) ∧ w'.cell? ⟨gc, 1, none⟩ = some (.int .i64 n3) ∧ w'.cell? ⟨gc, 2, none⟩ = some (.string s3) := by
  obtain ⟨g1, g2, g3, h1, h2, h3, h4, h5, h6, h7, h8, h9⟩ := h
  obtain ⟨hc, _⟩ := bcell hb
  have hs := hb.size
  refine ⟨by omega, by omega, by omega, ?_, ?_, ?_, ?_, ?_, ?_, ?_, ?_, ?_⟩
  · rw [hc _ _ g1]; exact h1
  · rw [hc _ _ g1]; exact h2
  · rw [hc _ _ g1]; exact h3
  · rw [hc _ _ g2]; exact h4
  · rw [hc _ _ g2]; exact h5
  · rw [hc _ _ g2]; exact h6
  · rw [hc _ _ g3]; exact h7
  · rw [hc _ _ g3]; exact h8
  · rw [hc _ _ g3]; exact h9

/-- Three values cut, and stored where they lie: what is left. -/
theorem three_stored {w wb : World} {ga gb gc : Nat} {k1 n1 k2 n2 k3 n3 : Int} {s1 s2 s3 : ByteArray} {B : Nat} {w0 : World} (A : Box w ga k1 n1 s1) (Bx : Box w gb k2 n2 s2) (C : Box w gc k3 n3 s3) (h12 : ga ≠ gb) (h13 : ga ≠ gc) (h23 : gb ≠ gc) (h1 : B ≤ ga) (h2 : B ≤ gb) (h3 : B ≤ gc) (hb0 : Below B w0 w) (hB : B ≤ w.heap.size) (hb : Below w.heap.size w wb) (t1 t2 t3 : ByteArray) :
    let w3 := ((wb.setCell ⟨ga, 0, none⟩ (.int .i64 k1)).setCell ⟨ga, 1, none⟩ (.int .i64 n1)).setCell ⟨ga, 2, none⟩ (.string t1)
    let w6 := ((w3.setCell ⟨gb, 0, none⟩ (.int .i64 k2)).setCell ⟨gb, 1, none⟩ (.int .i64 n2)).setCell ⟨gb, 2, none⟩ (.string t2)
    let w9 := ((w6.setCell ⟨gc, 0, none⟩ (.int .i64 k3)).setCell ⟨gc, 1, none⟩ (.int .i64 n3)).setCell ⟨gc, 2, none⟩ (.string t3)
    Box w9 ga k1 n1 t1 ∧ Box w9 gb k2 n2 t2 ∧ Box w9 gc k3 n3 t3 ∧ Below B w0 w9 := by
  intro w3 w6 w9
  have A1 := ((A.on hb).stored k1 n1 t1).beside3 h12.symm (.int .i64 k2) (.int .i64 n2) (.string t2)
  have B1 := ((Bx.on hb).beside3 h12 (.int .i64 k1) (.int .i64 n1) (.string t1)).stored k2 n2 t2
  have C1 := ((C.on hb).beside3 h13 (.int .i64 k1) (.int .i64 n1) (.string t1)).beside3 h23 (.int .i64 k2) (.int .i64 n2) (.string t2)
  refine ⟨A1.beside3 h13.symm _ _ _, B1.beside3 h23.symm _ _ _, C1.stored k3 n3 t3, below_set3 (below_set3 (below_set3 (hb0.trans (hb.mono hB)) h1 _ _ _) h2 _ _ _) h3 _ _ _⟩
end Go.Proofs.YtkgjfedpjbnjkaaDoor
