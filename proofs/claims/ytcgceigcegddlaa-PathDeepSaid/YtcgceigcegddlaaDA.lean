/- PathDeep: its tables, in plain and in memory. -/
import Derived.Test.YtcgceigcegddlaaQF
import Derived.Test.YtcgceigcegddlaaPM
import Derived.Laws.IdiomStrings
namespace Go.Proofs.Ytcgceigcegddlaa
open Go Go.RowKit Go.Proofs

theorem conv1 {w : World} {g : Nat} {c : Int} {u : UInt8} (h : w.heap[g]? = some (.cells #[.int .u8 c] 5)) (hc : (u.toNat : Int) = c) : (convert 49 9 (.slice (some ⟨g, 0, none⟩) 1 1)).run Try.prog w = .ok (.string ⟨#[u]⟩) w := by
  subst hc
  exact run_convert_bytes_back (P := Try.prog) w 49 9 5 ⟨g, 0, none⟩ 1 [u] Try.underlying49 Try.underlying5 Try.underlying9 (fun j hj => by
    obtain rfl : j = 0 := by simp at hj; omega
    exact nd_cell h 0)
abbrev sUp : ByteArray := ⟨#[117, 112]⟩
def nmL (i : Nat) : ByteArray := ⟨#[UInt8.ofNat (97 + i)]⟩
def cIdD : C := ⟨sId, 1, false, e0⟩
def cUpD (i : Nat) : C := ⟨sUp, 1, false, nmL i⟩
def tabD (i : Nat) : T := ⟨nmL i, if i = 0 then [cIdD] else [cIdD, cUpD (i - 1)], sId, []⟩
def tabsD (n : Nat) : List T := (List.range n).map tabD
def ksD (n : Nat) : List T := (tabsD n).map formT
theorem tabsD_len (n : Nat) : (tabsD n).length = n := by simp [tabsD]
theorem tabsD_succ (n : Nat) : tabsD (n + 1) = tabsD n ++ [tabD n] := by unfold tabsD; rw [List.range_succ, List.map_append]; rfl
theorem tabsD_at {n i : Nat} (h : i < (tabsD n).length) : (tabsD n)[i] = tabD i := by simp [tabsD]
theorem may_D : ∀ i, i < 7 → mayP (ksD i) (tabD i) = 0 := by decide +kernel
theorem keptD : ∀ n, n ≤ 7 → (tabsD n).foldl addT [] = ksD n
  | 0, _ => rfl
  | n + 1, h => by
    rw [tabsD_succ, List.foldl_append, keptD n (by omega)]
    show addT (ksD n) (tabD n) = _
    unfold addT
    rw [if_pos (may_D n (by omega))]
    unfold ksD
    rw [tabsD_succ, List.map_append]; rfl
theorem kept_D (n : Nat) (h : n ≤ 7) : kept (tabsD n) (tabsD n).length = ksD n := by
  unfold kept
  rw [List.take_length]
  exact keptD n h
theorem sm_D (n : Nat) : ∀ t ∈ tabsD n, Sm t := by
  intro t ht
  unfold tabsD at ht
  obtain ⟨i, _, rfl⟩ := List.mem_map.1 ht
  refine ⟨show (1 : Nat) ≤ maxLen by decide, fun x hx => ?_⟩
  unfold tabD at hx
  simp only at hx
  split at hx
  · rw [List.mem_singleton] at hx
    subst hx; exact show (2 : Nat) ≤ maxLen by decide
  · simp only [List.mem_cons, List.not_mem_nil, or_false] at hx
    rcases hx with rfl | rfl <;> exact show (2 : Nat) ≤ maxLen by decide
def pathD (k : Nat) : List ByteArray := List.replicate (k - 1) sUp ++ [sId]
theorem u8_D : ∀ i, i < 8 → ((UInt8.ofNat (97 + i)).toNat : Int) = 97 + (i : Int) := by decide +kernel
theorem col_D1 : ∀ n, n < 8 → ∀ k, k < 9 → 4 < k → (pcolL (ksD n) (nmL (n - 1)) (pathD k)).2.2 = 5 := by decide +kernel
theorem col_D2 : ∀ n, n < 8 → ∀ k, k < 5 → 0 < n → 0 < k → n < k → (pcolL (ksD n) (nmL (n - 1)) (pathD k)).2.2 = 3 := by decide +kernel
theorem col_D3a : ∀ n, n < 8 → ∀ k, k < 5 → 0 < n → 0 < k → k ≤ n → (pcolL (ksD n) (nmL (n - 1)) (pathD k)).2.2 = 0 := by decide +kernel
theorem col_D3b : ∀ n, n < 8 → ∀ k, k < 5 → 0 < n → 0 < k → k ≤ n → eqS (pcolL (ksD n) (nmL (n - 1)) (pathD k)).2.1 (nmL (n - k)) = true := by decide +kernel
theorem all_D : ∀ n, n < 8 → 0 < n → (waysP (ksD n) 4 (nmL (n - 1)) []).length = min n 4 + min (n - 1) 4 := by decide +kernel
end Go.Proofs.Ytcgceigcegddlaa
