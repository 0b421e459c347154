/- ColumnWords: its words. -/
import Derived.Test.YtglfmbpcapendaaO9
import Derived.Test.YtglfmbpcapendaaU
import Derived.Deep.LoopGhost
import Derived.Laws.IdiomStrings
namespace Go.Proofs.Ytglfmbpcapendaa.S
open Go Go.RowKit Go.Shelf Go.Proofs Go.Proofs.Ytglfmbpcapendaa

def wv (k : Nat) : T3 := if k = 0 then (0, 0, b0) else (2, 0, ⟨#[UInt8.ofNat (97 + k)]⟩)
abbrev VT (x : T3) : Value := (Value.agg #[Value.int .i64 (x.1), Value.int .i64 (x.2.1), Value.string (x.2.2)])
theorem conv_one (W : World) (c : Int) (u : UInt8) (h : c = (u.toNat : Int)) :
    (convert 40 9 (.slice (some ⟨W.heap.size + 1, 0, none⟩) 1 1)).run Try.prog ((W.alloc (.cells #[.int .i64 0, .int .i64 0, .string ⟨#[]⟩] 28)).alloc (.cells #[.int .u8 c] 5)) = .ok (.string ⟨#[u]⟩) ((W.alloc (.cells #[.int .i64 0, .int .i64 0, .string ⟨#[]⟩] 28)).alloc (.cells #[.int .u8 c] 5)) := by
  subst h
  have hh := heap_alloc_new (W.alloc (.cells #[.int .i64 0, .int .i64 0, .string ⟨#[]⟩] 28)) (.cells #[.int .u8 (u.toNat : Int)] 5)
  have hs : (W.alloc (.cells #[.int .i64 0, .int .i64 0, .string ⟨#[]⟩] 28)).heap.size = W.heap.size + 1 := by simp
  rw [hs] at hh
  exact run_convert_bytes_back (P := Try.prog) _ 40 9 5 ⟨W.heap.size + 1, 0, none⟩ 1 [u] Try.underlying40 Try.underlying5 Try.underlying9 (fun j hj => by
    obtain rfl : j = 0 := by simp at hj; omega
    exact nd_cell hh 0)
set_option maxRecDepth 100000 in
theorem word_any (k : Nat) (hk : k < 8) (W : World) : Calls Try.prog 17 #[(Value.int .i64 ((k : Int)))] W fun e w' => e = .returned (VT (wv k)) ∧ Below W.heap.size W w' := by
  obtain rfl | hk0 : k = 0 ∨ k ≠ 0 := by omega
  · go_enter Try.func17, Try.ntmps17
    go_wp2
    refine bodyPost_ret (v := VT (wv 0)) (by simp [results, Try.results17, go_sem, wv]) rfl ?_
    exact ⟨rfl, below_alloc W _⟩
  obtain rfl | hk1 : k = 1 ∨ k ≠ 1 := by omega
  · have hc := conv_one W 98 98 rfl
    go_enter Try.func17, Try.ntmps17
    go_wp2
    refine bodyPost_ret (v := VT (wv 1)) (by simp [results, Try.results17, go_sem, wv]) rfl ?_
    exact ⟨rfl, by first | exact (below_alloc W _).alloc (by simp) _ | exact ((below_alloc W _).alloc (by simp) _).setCell (Nat.le_refl _) _⟩
  obtain rfl | hk2 : k = 2 ∨ k ≠ 2 := by omega
  · have hc := conv_one W 99 99 rfl
    go_enter Try.func17, Try.ntmps17
    go_wp2
    refine bodyPost_ret (v := VT (wv 2)) (by simp [results, Try.results17, go_sem, wv]) rfl ?_
    exact ⟨rfl, by first | exact (below_alloc W _).alloc (by simp) _ | exact ((below_alloc W _).alloc (by simp) _).setCell (Nat.le_refl _) _⟩
  obtain rfl | hk3 : k = 3 ∨ k ≠ 3 := by omega
  · have hc := conv_one W 100 100 rfl
    go_enter Try.func17, Try.ntmps17
    go_wp2
    refine bodyPost_ret (v := VT (wv 3)) (by simp [results, Try.results17, go_sem, wv]) rfl ?_
    exact ⟨rfl, by first | exact (below_alloc W _).alloc (by simp) _ | exact ((below_alloc W _).alloc (by simp) _).setCell (Nat.le_refl _) _⟩
  obtain rfl | hk4 : k = 4 ∨ k ≠ 4 := by omega
  · have hc := conv_one W 101 101 rfl
    go_enter Try.func17, Try.ntmps17
    go_wp2
    refine bodyPost_ret (v := VT (wv 4)) (by simp [results, Try.results17, go_sem, wv]) rfl ?_
    exact ⟨rfl, by first | exact (below_alloc W _).alloc (by simp) _ | exact ((below_alloc W _).alloc (by simp) _).setCell (Nat.le_refl _) _⟩
  obtain rfl | hk5 : k = 5 ∨ k ≠ 5 := by omega
  · have hc := conv_one W 102 102 rfl
    go_enter Try.func17, Try.ntmps17
    go_wp2
    refine bodyPost_ret (v := VT (wv 5)) (by simp [results, Try.results17, go_sem, wv]) rfl ?_
    exact ⟨rfl, by first | exact (below_alloc W _).alloc (by simp) _ | exact ((below_alloc W _).alloc (by simp) _).setCell (Nat.le_refl _) _⟩
  obtain rfl | hk6 : k = 6 ∨ k ≠ 6 := by omega
  · have hc := conv_one W 103 103 rfl
    go_enter Try.func17, Try.ntmps17
    go_wp2
    refine bodyPost_ret (v := VT (wv 6)) (by simp [results, Try.results17, go_sem, wv]) rfl ?_
    exact ⟨rfl, by first | exact (below_alloc W _).alloc (by simp) _ | exact ((below_alloc W _).alloc (by simp) _).setCell (Nat.le_refl _) _⟩
  obtain rfl | hk7 : k = 7 ∨ k ≠ 7 := by omega
  · have hc := conv_one W 104 104 rfl
    go_enter Try.func17, Try.ntmps17
    go_wp2
    refine bodyPost_ret (v := VT (wv 7)) (by simp [results, Try.results17, go_sem, wv]) rfl ?_
    exact ⟨rfl, by first | exact (below_alloc W _).alloc (by simp) _ | exact ((below_alloc W _).alloc (by simp) _).setCell (Nat.le_refl _) _⟩
  omega
end Go.Proofs.Ytglfmbpcapendaa.S
