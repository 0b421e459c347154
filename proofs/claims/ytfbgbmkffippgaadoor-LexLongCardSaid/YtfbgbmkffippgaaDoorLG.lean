/- LexLong, in plain. -/
import Derived.Test.YtfbgbmkffippgaaDoorLF
namespace Go.Proofs.YtfbgbmkffippgaaDoor
open Go Go.RowKit
theorem isLet_iff {c : UInt8} : isLet c = true ↔ (97 ≤ c.toNat ∧ c.toNat ≤ 122) ∨ c.toNat = 95 := by rw [isLet_eq, decide_eq_true_eq]
theorem let_bet {c : UInt8} (h : isLet c = true) : isBet c = false := by
  rw [isLet_iff] at h
  rw [isBet_eq]
  exact decide_eq_false (by omega)
theorem let_q {c : UInt8} (h : isLet c = true) : notQ c = true := by
  rw [isLet_iff] at h
  exact decide_eq_true (by omega)
theorem let_ok {c : UInt8} (h : isLet c = true) : okB c = true := by
  rw [isLet_iff] at h
  exact okB_true (by omega) (by omega) (by omega)
theorem let_nam {c : UInt8} (h : isLet c = true) : isNam c = true := by unfold isNam; rw [h]; rfl
theorem nameN_let {L : List UInt8} (hL : ∀ c ∈ L, isLet c = true) (h1 : 1 ≤ L.length) : nameN L = if 12 < L.length then 0 else L.length := by
  unfold nameN
  rw [runF_all (p := isNam) (fun j hj _ => let_nam (hL _ (List.getElem_mem hj))) h1]
theorem textN_let {L : List UInt8} (hL : ∀ c ∈ L, isLet c = true) : textN (39 :: (L ++ [39])) = if 12 < L.length then 0 else L.length + 2 := by
  have hr : runF notQ (39 :: (L ++ [39])) 1 = 1 + L.length := by
    unfold runF
    show 1 + ((L ++ [39]).takeWhile notQ).length = _
    rw [List.takeWhile_append_of_pos (fun c hc => let_q (hL c hc)), List.length_append]
    rfl
  unfold textN
  rw [hr, if_neg (by simp; omega)]
  have ht : ((39 :: (L ++ [39])).drop 1).take (1 + L.length - 1) = L := by
    show (L ++ [39]).take (1 + L.length - 1) = L
    rw [show 1 + L.length - 1 = L.length by omega, List.take_left']
    rfl
  have ho : L.all okB = true := List.all_eq_true.2 (fun c hc => let_ok (hL c hc))
  rw [ht]
  unfold mayT
  rw [ho, Bool.and_true]
  by_cases h : 12 < L.length
  · rw [if_pos h, decide_eq_false (by omega)]
    rfl
  · rw [if_neg h, decide_eq_true (by omega), if_pos rfl]
    omega
theorem wordN_let {L : List UInt8} (hL : ∀ c ∈ L, isLet c = true) (h1 : 1 ≤ L.length) : wordN L = (1, if 12 < L.length then 0 else L.length) := by
  cases L with
  | nil => simp at h1
  | cons c r =>
    rw [← nameN_let hL h1]
    show (if isLet c then ((1 : Int), nameN (c :: r)) else _) = _
    rw [if_pos (hL c List.mem_cons_self)]
theorem scan_1 {L : List UInt8} (hL : ∀ c ∈ L, isLet c = true) (h1 : 1 ≤ L.length) : (scanP (32 :: L)).2 = if L.length ≤ 12 then -1 else 1 := by
  unfold scanP
  rw [List.length_cons, scanR_at (by simp)]
  rw [if_pos (show isBet ((32 :: L)[0]) = true from rfl)]
  obtain ⟨f, hf⟩ : ∃ f, L.length = f + 1 := ⟨L.length - 1, by omega⟩
  have hk : 0 + 1 < (32 :: L).length := by rw [List.length_cons]; omega
  have hx : isLet ((32 :: L)[0 + 1]) = true := hL _ (by show L[0] ∈ L; exact List.getElem_mem _)
  rw [hf, scanR_at hk, if_neg (by rw [let_bet hx]; exact Bool.false_ne_true)]
  show (if (wordN L).2 = 0 then ((none : Option (List Tok)), ((0 + 1 : Nat) : Int)) else scanR (32 :: L) f (0 + 1 + (wordN L).2) ([] ++ [((wordN L).1, (⟨(L.take (wordN L).2).toArray⟩ : ByteArray), ((0 + 1 : Nat) : Int))])).2 = _
  rw [wordN_let hL h1, ← hf]
  by_cases h : 12 < L.length
  · rw [if_pos h, if_pos rfl, if_neg (by omega)]
    rfl
  · rw [if_neg h, if_neg (show ¬ L.length = 0 by omega), if_pos (by omega), scanR_end (by rw [List.length_cons]; show L.length + 1 ≤ 0 + 1 + L.length; omega)]
theorem scan_2 {L : List UInt8} (hL : ∀ c ∈ L, isLet c = true) : (scanP (120 :: 32 :: 39 :: (L ++ [39]))).2 = if L.length ≤ 12 then -1 else 2 := by
  obtain ⟨l, hl⟩ : ∃ l, 120 :: 32 :: 39 :: (L ++ [39]) = l := ⟨_, rfl⟩
  have hlen : l.length = L.length + 4 := by rw [← hl]; simp
  unfold scanP
  rw [hl, hlen, show L.length + 4 = (L.length + 3) + 1 from rfl, scanR_at (by omega)]
  have h0 : isBet (l[0]'(by omega)) = false := by subst hl; rfl
  rw [if_neg (by rw [h0]; exact Bool.false_ne_true), List.drop_zero]
  have hw : wordN l = (1, 1) := by
    subst hl
    show ((1 : Int), nameN (120 :: 32 :: 39 :: (L ++ [39]))) = _
    have : runF isNam (120 :: 32 :: 39 :: (L ++ [39])) 1 = 1 := runF_no (by simp) rfl
    unfold nameN
    rw [this]
    rfl
  rw [hw, if_neg (show ¬ ((1 : Int), 1).2 = 0 by decide), show L.length + 3 = (L.length + 2) + 1 from rfl]
  generalize ([] : List Tok) ++ _ = acc1
  show (scanR l (L.length + 2 + 1) 1 acc1).2 = _
  have h1 : isBet (l[1]'(by omega)) = true := by subst hl; rfl
  rw [scanR_at (show 1 < l.length by omega), if_pos h1, show L.length + 2 = (L.length + 1) + 1 from rfl]
  show (scanR l (L.length + 1 + 1) 2 acc1).2 = _
  have h2 : isBet (l[2]'(by omega)) = false := by subst hl; rfl
  rw [scanR_at (show 2 < l.length by omega), if_neg (by rw [h2]; exact Bool.false_ne_true)]
  have hd : l.drop 2 = 39 :: (L ++ [39]) := by subst hl; rfl
  have hw2 : wordN (l.drop 2) = (3, if 12 < L.length then 0 else L.length + 2) := by
    rw [hd, ← textN_let hL]
    rfl
  rw [hw2]
  by_cases h : 12 < L.length
  · rw [if_pos h, if_pos rfl, if_neg (by omega)]
    rfl
  · rw [if_neg h, if_neg (show ¬ L.length + 2 = 0 by omega), if_pos (by omega), scanR_end (by rw [hlen]; show L.length + 4 ≤ 2 + (L.length + 2); omega)]
end Go.Proofs.YtfbgbmkffippgaaDoor
