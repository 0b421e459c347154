/- Text: the program's and the reference's. -/
import Derived.Test.YtcgceigcegddlaaPB
import Derived.Test.YtcgceigcegddlaaSH
import Derived.Laws.Concat
namespace Go.Proofs.Ytcgceigcegddlaa
open Go Go.RowKit Go.Proofs

def textP (p : List ByteArray) : ByteArray := ⟨(Lib.join (p.map (·.data.toList)) [46]).toArray⟩
theorem textP_nil : textP [] = e0 := rfl
theorem tail_snoc (sep : List UInt8) (r : List (List UInt8)) (y : List UInt8) : Lib.joinTail sep (r ++ [y]) = Lib.joinTail sep r ++ (sep ++ y) := by simp [Lib.joinTail]
theorem textP_one (y : ByteArray) : textP [y] = y := by
  unfold textP
  rw [List.map_cons, List.map_nil, Lib.join_one, Lib.mk_data]
theorem textP_snoc (x : ByteArray) (r : List ByteArray) (y : ByteArray) : textP ((x :: r) ++ [y]) = textP (x :: r) ++ ⟨#[46]⟩ ++ y := by
  unfold textP
  apply toL_inj
  simp only [List.map_append, List.map_cons, List.map_nil, List.cons_append, Lib.join_cons, tail_snoc, ByteArray.data_append, Array.toList_append, List.append_assoc]
/-- Few words, none of them long. -/
def Short (p : List ByteArray) : Prop := p.length ≤ 6 ∧ ∀ x ∈ p, x.size ≤ 1000
theorem lens_le : ∀ (p : List ByteArray), (∀ x ∈ p, x.size ≤ 1000) → Lib.lens (p.map (·.data.toList)) ≤ p.length * 1000
  | [], _ => by simp [Lib.lens]
  | x :: r, h => by
    have h1 := h x (by simp)
    have h2 := lens_le r (fun y hy => h y (by simp [hy]))
    have e : Lib.lens ((x :: r).map (·.data.toList)) = x.data.toList.length + Lib.lens (r.map (·.data.toList)) := by simp [Lib.lens]
    rw [e, List.length_cons]
    have : x.data.toList.length = x.size := by rw [Array.length_toList]; rfl
    omega
theorem Short.text {p : List ByteArray} (h : Short p) : (Lib.join (p.map (·.data.toList)) [46]).length ≤ 7000 := by
  obtain ⟨h1, h2⟩ := h
  cases p with
  | nil => simp [Lib.join_nil]
  | cons x r =>
    have := lens_le (x :: r) h2
    rw [List.map_cons] at this ⊢
    rw [Lib.join_length]
    simp only [List.length_map, List.length_cons, List.length_nil] at *
    omega
theorem Short.size {p : List ByteArray} (h : Short p) : (textP p).size ≤ 7000 := by
  have := h.text
  unfold textP
  simpa [ByteArray.size] using this
theorem Short.take {p : List ByteArray} (h : Short p) (k : Nat) : Short (p.take k) := ⟨by rw [List.length_take]; have := h.1; omega, fun x hx => h.2 x (List.mem_of_mem_take hx)⟩
set_option maxRecDepth 100000 in
theorem join_any {p : List ByteArray} {v : Value} {W : World} (h : Wd W v p) (hs : Short p) : Calls Try.prog 33 #[v, .string ⟨#[46]⟩] W fun e w' => e = .returned (.string (textP p)) ∧ Below W.heap.size W w' := by
  obtain ⟨q, cap, rfl, hc, hm⟩ := h.slice
  rcases Nat.eq_zero_or_pos p.length with h0 | h0
  · have hp : p = [] := List.eq_nil_of_length_eq_zero h0
    subst hp
    exact (Try.strings_Join_none q cap _ W).mono fun e w' ⟨he, hw⟩ => ⟨he, hw ▸ Below.refl _ _⟩
  · obtain ⟨b, off, rfl, hb, _⟩ := h.word (i := 0) h0
    refine Try.strings_Join b off cap p ⟨#[46]⟩ W (fun j x hj => ?_) hb (by have := hs.1; omega) hc (by have := hs.text; show (Lib.join _ [46]).length ≤ _; omega)
    obtain ⟨hjl, rfl⟩ := List.getElem?_eq_some_iff.1 hj
    obtain ⟨b', off', e, _, hc⟩ := h.word hjl
    cases e
    exact hc
set_option maxRecDepth 100000 in
theorem text_any {p : List ByteArray} {v : Value} {W : World} (h : Wd W v p) (hs : Short p) : Calls Try.prog 14 #[v] W fun e w' => e = .returned (.string (textP p)) ∧ Below W.heap.size W w' := by
  have hj := join_any h hs
  obtain ⟨q, cap, rfl, _, _⟩ := h.slice
  generalize textP p = t at hj ⊢
  clear h hs
  generalize p.length = n at hj ⊢
  go_enter Try.func14, Try.ntmps14
  go_wp2_with (go_at_call 33; (with_reducible refine hj.mono ?_); rintro e w1 ⟨rfl, hb⟩)
  go_ret
  exact ⟨rfl, hb⟩
set_option maxRecDepth 100000 in
set_option maxHeartbeats 1000000 in
theorem rtext_any {p : List ByteArray} {v : Value} {W : World} (h : RdS W v p) (hs : Short p) : Calls Try.prog 15 #[v] W fun e w' => e = .returned (.string (textP p)) ∧ w' = W := by
  obtain ⟨q, cap, rfl, hc, hm⟩ := h.slice
  obtain ⟨n, hn⟩ : ∃ n, p.length = n := ⟨_, rfl⟩
  unfold maxLen at hm
  rw [hn] at hc h ⊢
  have HR := Lib.hid (And.intro h hs)
  have HN := Lib.hid hn
  clear h hn hs
  go_enter Try.func15, Try.ntmps15
  go_wp2_with fail
  go_loopg [3, 4] (n + 1) (fun gh sv jv w => ∃ (j : Nat), jv = .int .i64 (j : Int) ∧ j ≤ n ∧ n + 1 ≤ j + gh ∧ sv = .string (textP (p.take j)) ∧ w = W)
  case atStart => exact ⟨0, rfl, Nat.zero_le _, by omega, rfl, rfl⟩
  case round =>
    obtain ⟨j, rfl, hj, hg, rfl, rfl⟩ := hrel
    by_cases hlt : j < n
    · have hjl : j < p.length := by rw [HN.out]; exact hlt
      obtain ⟨b, o, rfl, hb, c1⟩ := RdS.word HR.out.1 hjl
      have hsz := (HR.out.2.take j).size
      have hx := HR.out.2.2 p[j] (List.getElem_mem _)
      have htk := List.take_succ_eq_append_getElem hjl
      obtain ⟨x, hxe⟩ : ∃ x, p[j] = x := ⟨_, rfl⟩
      rw [hxe] at c1 hx htk
      by_cases h0 : j = 0
      · have e1 : textP (p.take (j + 1)) = x := by rw [htk, h0]; exact textP_one x
        have e2 : textP (p.take j) = e0 := by rw [h0]; rfl
        have HE := Lib.hid e1
        rw [e2]
        have hadd : ∀ w, (Op.stringOp .add e0 x).run Try.prog w = .ok (.string x) w := fun w => by
          rw [run_string_add_sum w e0 x (by show 0 + x.size ≤ _; omega)]
          have : e0 ++ x = x := toL_inj (by simp [ByteArray.data_append])
          rw [this]
        have hd0 : decide (0 < (j : Int)) = false := decide_eq_false (by omega)
        have hd1 : decide (0 < j) = false := decide_eq_false (by omega)
        have HJ0 := Lib.hid h0
        clear e1 e2 htk hsz hx hxe h0
        go_wp2_with fail
        go_roundg (n - j)
        case measure => omega
        case rel => exact ⟨j + 1, by go_num, by omega, by omega, by rw [HE.out], rfl⟩
      · have hjp : (0 : Int) < (j : Int) := by omega
        obtain ⟨y, r, hyr⟩ : ∃ y r, p.take j = y :: r := by
          cases h : p.take j with
          | nil => have := congrArg List.length h; simp only [List.length_take, List.length_nil] at this; rw [HN.out] at this; omega
          | cons y r => exact ⟨y, r, rfl⟩
        have e1 : textP (p.take (j + 1)) = textP (p.take j) ++ ⟨#[46]⟩ ++ x := by rw [htk, hyr]; exact textP_snoc y r x
        have HE := Lib.hid e1
        generalize textP (p.take j) = s at hsz HE ⊢
        have hadd1 : ∀ w, (Op.stringOp .add s ⟨#[46]⟩).run Try.prog w = .ok (.string (s ++ ⟨#[46]⟩)) w := fun w => run_string_add_sum w s ⟨#[46]⟩ (by show s.size + 1 ≤ _; omega)
        have hadd2 : ∀ w, (Op.stringOp .add (s ++ ⟨#[46]⟩) x).run Try.prog w = .ok (.string (s ++ ⟨#[46]⟩ ++ x)) w := fun w => run_string_add_sum w _ x (by rw [ByteArray.size_append]; show s.size + 1 + x.size ≤ _; omega)
        clear e1 htk hsz hx hxe hyr
        go_wp2_with fail
        go_roundg (n - j)
        case measure => omega
        case rel => exact ⟨j + 1, by go_num, by omega, by omega, by rw [HE.out], rfl⟩
    · obtain rfl : j = n := by omega
      have e : p.take j = p := List.take_of_length_le (by rw [HN.out]; exact Nat.le_refl _)
      rw [e]
      go_wp2_with fail
      go_ret
      exact ⟨rfl, rfl⟩
end Go.Proofs.Ytcgceigcegddlaa
