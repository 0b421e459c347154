/- Text: the program's and the reference's. -/
import Derived.Test.YtmfkkpogmmoflaaGreatPB
import Derived.Test.YtmfkkpogmmoflaaGreatSH
import Derived.Laws.Concat
namespace Go.Proofs.YtmfkkpogmmoflaaGreat
open Go Go.RowKit Go.Proofs

def textP (p : List ByteArray) : ByteArray := ⟨(Lib.join (p.map (·.data.toList)) [46]).toArray⟩
theorem textP_nil : textP [] = e0 := rfl
theorem tail_snoc (sep : List UInt8) (r : List (List UInt8)) (y : List UInt8) : Lib.joinTail sep (r ++ [y]) = Lib.joinTail sep r ++ (sep ++ y) := by simp [Lib.joinTail]
theorem textP_one (y : ByteArray) : textP [y] = y := by
  unfold textP
  rw [List.map_cons, List.map_nil, Lib.join_one, Lib.mk_data]
theorem textP_snoc (x : ByteArray) (r : List ByteArray) (y : ByteArray) : textP ((x :: r) ++ [y]) = textP (x :: r) ++ ⟨#[46]⟩ ++ y := by
  unfold textP
  apply toL_inj
  simp only [List.map_append, List.map_cons, List.map_nil, List.cons_append, Lib.join_cons, tail_snoc, ByteArray.data_append, Array.toList_append, List.append_assoc]
/-- Few words, none of them long. -/
def Short (p : List ByteArray) : Prop := p.length ≤ 6 ∧ ∀ x ∈ p, x.size ≤ 1000
theorem lens_le : ∀ (p : List ByteArray), (∀ x ∈ p, x.size ≤ 1000) → Lib.lens (p.map (·.data.toList)) ≤ p.length * 1000
  | [], _ => by simp [Lib.lens]
  | x :: r, h => by
    have h1 := h x (by simp)
    have h2 := lens_le r (fun y hy => h y (by simp [hy]))
    have e : Lib.lens ((x :: r).map (·.data.toList)) = x.data.toList.length + Lib.lens (r.map (·.data.toList)) := by simp [Lib.lens]
    rw [e, List.length_cons]
    have : x.data.toList.length = x.size := by rw [Array.length_toList]; rfl
    omega
theorem Short.text {p : List ByteArray} (h : Short p) : (Lib.join (p.map (·.data.toList)) [46]).length ≤ 7000 := by
  obtain ⟨h1, h2⟩ := h
  cases p with
  | nil => simp [Lib.join_nil]
  | cons x r =>
    have := lens_le (x :: r) h2
    rw [List.map_cons] at this ⊢
    rw [Lib.join_length]
    simp only [List.length_map, List.length_cons, List.length_nil] at *
    omega
theorem Short.size {p : List ByteArray} (h : Short p) : (textP p).size ≤ 7000 := by
  have := h.text
  unfold textP
  simpa [ByteArray.size] using this
theorem Short.take {p : List ByteArray} (h : Short p) (k : Nat) : Short (p.take k) := ⟨by rw [List.length_take]; have := h.1; omega, fun x hx => h.2 x (List.mem_of_mem_take hx)⟩
set_option maxRecDepth 100000 in
theorem join_any {p : List ByteArray} {v : Value} {W : World} (h : Wd W v p) (hs : Short p) : Calls Tryz.prog 82 #[v, .string ⟨#[46]⟩] W fun e w' => e = .returned (.string (textP p)) ∧ Below W.heap.size W w' := by
  obtain ⟨q, cap, rfl, hc, hm⟩ := h.slice
  rcases Nat.eq_zero_or_pos p.length with h0 | h0
  · have hp : p = [] := List.eq_nil_of_length_eq_zero h0
    subst hp
    exact (Tryz.strings_Join_none q cap _ W).mono fun e w' ⟨he, hw⟩ => ⟨he, hw ▸ Below.refl _ _⟩
  · obtain ⟨b, off, rfl, hb, _⟩ := h.word (i := 0) h0
    refine Tryz.strings_Join b off cap p ⟨#[46]⟩ W (fun j x hj => ?_) hb (by have := hs.1; omega) hc (by have := hs.text; show (Lib.join _ [46]).length ≤ _; omega)
    obtain ⟨hjl, rfl⟩ := List.getElem?_eq_some_iff.1 hj
    obtain ⟨b', off', e, _, hc⟩ := h.word hjl
    cases e
    exact hc
set_option maxRecDepth 100000 in
theorem text_any {p : List ByteArray} {v : Value} {W : World} (h : Wd W v p) (hs : Short p) : Calls Tryz.prog 55 #[v] W fun e w' => e = .returned (.string (textP p)) ∧ Below W.heap.size W w' := by
  have hj := join_any h hs
  obtain ⟨q, cap, rfl, _, _⟩ := h.slice
  generalize textP p = t at hj ⊢
  clear h hs
  generalize p.length = n at hj ⊢
  go_enter Tryz.func55, Tryz.ntmps55
  go_wp2_with (go_at_call 82; (with_reducible refine hj.mono ?_); rintro e w1 ⟨rfl, hb⟩)
  go_ret
  exact ⟨rfl, hb⟩
end Go.Proofs.YtmfkkpogmmoflaaGreat
