/- The walk of ValTexts. -/
import Derived.Test.YtkgjfedpjbnjkaaDoorO
import Derived.Deep.OwnRows
namespace Go.Proofs.YtkgjfedpjbnjkaaDoor
open Go Go.RowKit

theorem info5 : (Tryd.prog.info? 5).map (fun i => (i.zero, i.size, i.bytes)) = some (some (.int .u8 0), 1, 1) := by kernel_rfl

theorem strOf_rep (n : Nat) (x : Int) (h0 : 0 ≤ x) (h1 : x ≤ 255) : ∃ c : UInt8, (c.toNat : Int) = x ∧ (strOfNums (List.replicate n x)).data.toList = List.replicate n c := by
  refine ⟨UInt8.ofNat x.toNat, ?_, ?_⟩
  · have : x.toNat < 256 := by omega
    simp [UInt8.toNat_ofNat', Nat.mod_eq_of_lt this]
    omega
  · simp [strOfNums]

theorem may2_rep (n : Nat) (c : UInt8) (G : Bool) (h : (G = true ∧ n = 0) ∨ (G = false ∧ 12 < n) ∨ (G = false ∧ 0 < n ∧ okB c = false) ∨ (G = true ∧ n ≤ 12 ∧ okB c = true)) : mayV 2 0 (List.replicate n c) = G := by
  rcases h with ⟨rfl, h⟩ | ⟨rfl, h⟩ | ⟨rfl, h, h2⟩ | ⟨rfl, h, h2⟩
  · subst h; rfl
  · simp [mayV, mayT]; intro h3; omega
  · cases n with
    | zero => omega
    | succ n => simp [mayV, mayT, List.replicate_succ, h2]
  · simp [mayV, mayT, h]; exact .inr h2
theorem may1_rep (n : Nat) (c : UInt8) : mayV 1 0 (List.replicate n c) = decide (n = 0) := by
  cases n <;> simp [mayV, List.replicate_succ]

set_option maxHeartbeats 8000000 in
theorem valTexts_core (N : Nat) (x : Int) (w : World) (hN : N ≤ 20) (x0 : 0 ≤ x) (x1 : x ≤ 255) (ht : TabAt w) (G : Bool)
    (hG : (G = true ∧ N = 0) ∨ (G = false ∧ 12 < N) ∨ (G = false ∧ 0 < N ∧ N ≤ 12 ∧ x < 32) ∨ (G = false ∧ 0 < N ∧ N ≤ 12 ∧ 126 < x) ∨ (G = false ∧ 0 < N ∧ N ≤ 12 ∧ x = 39) ∨ (G = true ∧ 0 < N ∧ N ≤ 12 ∧ 32 ≤ x ∧ x ≤ 126 ∧ x ≠ 39)) :
    Calls Tryd.prog 10 #[.int .i64 (N : Int), .int .u8 x] w fun e w' => e = .returned (.bool true) ∧ Below w.heap.size w w' := by
  have HT := Lib.hid ht
  clear ht
  obtain ⟨c, hc, hS⟩ := strOf_rep N x x0 x1
  have hM : mayV 2 0 (strOfNums (List.replicate N x)).data.toList = G := by
    rw [hS]
    apply may2_rep
    rcases hG with ⟨h, h2⟩ | ⟨h, h2⟩ | ⟨h, h2, h3, h4⟩ | ⟨h, h2, h3, h4⟩ | ⟨h, h2, h3, h4⟩ | ⟨h, h2, h3, h4, h5, h6⟩
    · exact .inl ⟨h, h2⟩
    · exact .inr (.inl ⟨h, h2⟩)
    · exact .inr (.inr (.inl ⟨h, h2, okB_false (.inl (by omega))⟩))
    · exact .inr (.inr (.inl ⟨h, h2, okB_false (.inr (.inl (by omega)))⟩))
    · exact .inr (.inr (.inl ⟨h, h2, okB_false (.inr (.inr (by omega)))⟩))
    · exact .inr (.inr (.inr ⟨h, h3, okB_true (by omega) (by omega) (by omega)⟩))
  have hM1 : mayV 1 0 (strOfNums (List.replicate N x)).data.toList = decide (N = 0) := by rw [hS, may1_rep]
  have hsz : (strOfNums (List.replicate N x)).size ≤ maxLen := by rw [strOfNums_size]; simp; unfold maxLen; omega
  have hconv0 := fun (v : World) (g : Nat) (h : ∀ i, i < N → v.cell? ⟨g, i, none⟩ = some (.int .u8 x)) =>
    run_convert_bytes_arg (P := Tryd.prog) v 43 5 Tryd.underlying43 Tryd.underlying5 g 0 N N (List.replicate N x) (by simp)
      (fun i hi => by rw [Nat.zero_add, h i hi]; simp [hi]) 9 Tryd.underlying9
  have HC := Lib.hid hconv0
  clear hconv0
  generalize strOfNums (List.replicate N x) = S at hS hM hM1 hsz HC
  have HM := Lib.hid hM
  have HM1 := Lib.hid hM1
  clear hM hM1 hS hc
  have hmk := run_make_row' (P := Tryd.prog) 43 5 (.int .u8 0) 1 Tryd.underlying43 info5 rfl .i64 .i64 N (by omega) (by omega)
  have HG := Lib.hid hG
  clear hG
  go_enter Tryd.func10, Tryd.ntmps10
  go_wp2_with fail
  refine (begun_any _ HT.out).mono ?_
  rintro e w1 ⟨rfl, hb1⟩
  have HB1 := Lib.hid hb1
  clear hb1
  go_wp2_with fail
  have hb2 : Below w.heap.size w (w1.alloc (.cells (madeCells #[.int .u8 0] N) 5)) := HB1.out.alloc HB1.out.size _
  have hblk : (w1.alloc (.cells (madeCells #[.int .u8 0] N) 5)).heap[w1.heap.size]? = some (.cells (madeCells #[.int .u8 0] N) 5 (0, 0)) := by
    show (w1.heap.push _)[w1.heap.size]? = _
    simp
  have hgw : w.heap.size ≤ w1.heap.size := HB1.out.size
  have HBLK := Lib.hid hblk
  clear hblk
  have HB2 := Lib.hid hb2
  clear hb2
  go_loopw [22] (fun i wr => ∃ (k : Nat) (cs : Array Value), k ≤ N ∧ i = .int .i64 k ∧ wr.heap[w1.heap.size]? = some (.cells cs 5 (0, 0)) ∧ cs.size = N ∧ (∀ j, j < k → cs[j]? = some (.int .u8 x)) ∧ Below w.heap.size w wr) (fun i _ => N - (intOf i).toNat)
  case atStart => exact ⟨0, _, Nat.zero_le _, rfl, HBLK.out, size_madeCells _ _, fun j hj => by omega, HB2.out⟩
  case round =>
    obtain ⟨k, cs, hk, rfl, hblk, hcs, hall, hb⟩ := hrel
    have HA := Lib.hid hall
    have HK := Lib.hid hblk
    have HCS := Lib.hid hcs
    clear hall hcs
    by_cases hlt : k < N
    · have hck : wr.cell? ⟨w1.heap.size, k, none⟩ = some (cs[k]'(by have := HCS.out; omega)) := by
        rw [Joins.cell_of_block hblk, Array.getElem?_eq_getElem (by have := HCS.out; omega)]
      have hfr : wr.frozen? ⟨w1.heap.size, k, none⟩ = false := Joins.unfrozen_of_block hblk k
      have hst := Joins.block_setCell hblk (i := k) (.int .u8 x)
      have HST := Lib.hid hst
      have hbs : Below w.heap.size w (wr.setCell ⟨w1.heap.size, k, none⟩ (.int .u8 x)) := hb.setCell hgw _
      have HBS := Lib.hid hbs
      clear hst hbs hblk
      generalize cs[k]'(by have := HCS.out; omega) = old at hck
      go_wp2
      refine ⟨⟨k + 1, cs.setIfInBounds k (.int .u8 x), by omega, by go_num, HST.out, by rw [Array.size_setIfInBounds]; exact HCS.out, ?_, HBS.out⟩, by simp [intOf]; omega⟩
      intro j hj
      rw [Array.getElem?_setIfInBounds]
      by_cases e : k = j
      · subst e
        rw [if_pos rfl, if_pos (by have := HCS.out; omega)]
      · rw [if_neg e]
        exact HA.out j (by omega)
    · obtain rfl : k = N := by omega
      have hcell : ∀ i, i < k → wr.cell? ⟨w1.heap.size, i, none⟩ = some (.int .u8 x) := fun i hi => by rw [Joins.cell_of_block hblk]; exact HA.out i hi
      have hlt0 : w1.heap.size < wr.heap.size := by
        rcases Nat.lt_or_ge w1.heap.size wr.heap.size with h | h
        · exact h
        · rw [Array.getElem?_eq_none h] at hblk; cases hblk
      have HCELL := Lib.hid hcell
      have HLT := Lib.hid hlt0
      have HBR := Lib.hid hb
      clear hcell hblk hlt0 hb
      have hconv := HC.out wr _ HCELL.out
      have hG := HG.out
      rcases hG with ⟨rfl, h2⟩ | ⟨rfl, h2⟩ | ⟨rfl, h2, h3, h4⟩ | ⟨rfl, h2, h3, h4⟩ | ⟨rfl, h2, h3, h4⟩ | ⟨rfl, h2, h3, h4, h5, h6⟩
      · have e0 : ((k : Int) == 0) = true := beq_iff_eq.2 (by omega)
        have E1 : Hid (mayV 1 0 S.data.toList = true) := HM1.out.trans (by simp [h2])
        clear e0
        subst h2
        go_wp2_with fail
        refine (text_any _ _).mono ?_
        rintro e w2 ⟨rfl, hb2⟩
        go_wp2_with fail
        refine (may_is 2 0 _ _ _ hsz HM.out).mono ?_
        rintro e w3 ⟨rfl, hb3⟩
        have hb23 : Below wr.heap.size wr w3 := hb2.trans (hb3.mono hb2.size)
        have hconv2 := HC.out w3 _ (fun i hi => by rw [(bcell hb23).1 _ _ HLT.out]; exact HCELL.out i hi)
        have HB3 := Lib.hid (HBR.out.trans (hb23.mono HBR.out.size))
        clear hconv hb2 hb3 hb23
        go_wp2_with fail
        refine (may_is 1 0 _ _ _ hsz E1.out).mono ?_
        rintro e w4 ⟨rfl, hb4⟩
        have HB4 := Lib.hid (HB3.out.trans (hb4.mono HB3.out.size))
        clear hb4
        go_wp2_with fail
        go_ret
        exact ⟨ret_bool (by first | rfl | (simp; done) | (simp; omega)), HB4.out⟩
      · have e0 : ((k : Int) == 0) = false := beq_eq_false_iff_ne.2 (by omega)
        have E1 : Hid (mayV 1 0 S.data.toList = false) := HM1.out.trans (by simp; omega)
        go_wp2_with fail
        refine (text_any _ _).mono ?_
        rintro e w2 ⟨rfl, hb2⟩
        go_wp2_with fail
        refine (may_is 2 0 _ _ _ hsz HM.out).mono ?_
        rintro e w3 ⟨rfl, hb3⟩
        have hb23 : Below wr.heap.size wr w3 := hb2.trans (hb3.mono hb2.size)
        have hconv2 := HC.out w3 _ (fun i hi => by rw [(bcell hb23).1 _ _ HLT.out]; exact HCELL.out i hi)
        have HB3 := Lib.hid (HBR.out.trans (hb23.mono HBR.out.size))
        clear hconv hb2 hb3 hb23
        go_wp2_with fail
        refine (may_is 1 0 _ _ _ hsz E1.out).mono ?_
        rintro e w4 ⟨rfl, hb4⟩
        have HB4 := Lib.hid (HB3.out.trans (hb4.mono HB3.out.size))
        clear hb4
        go_wp2_with fail
        go_ret
        exact ⟨ret_bool (by first | rfl | (simp; done) | (simp; omega)), HB4.out⟩
      · have e0 : ((k : Int) == 0) = false := beq_eq_false_iff_ne.2 (by omega)
        have E1 : Hid (mayV 1 0 S.data.toList = false) := HM1.out.trans (by simp; omega)
        have e39 : (x == 39) = false := beq_eq_false_iff_ne.2 (by omega)
        go_wp2_with fail
        refine (text_any _ _).mono ?_
        rintro e w2 ⟨rfl, hb2⟩
        go_wp2_with fail
        refine (may_is 2 0 _ _ _ hsz HM.out).mono ?_
        rintro e w3 ⟨rfl, hb3⟩
        have hb23 : Below wr.heap.size wr w3 := hb2.trans (hb3.mono hb2.size)
        have hconv2 := HC.out w3 _ (fun i hi => by rw [(bcell hb23).1 _ _ HLT.out]; exact HCELL.out i hi)
        have HB3 := Lib.hid (HBR.out.trans (hb23.mono HBR.out.size))
        clear hconv hb2 hb3 hb23
        go_wp2_with fail
        refine (may_is 1 0 _ _ _ hsz E1.out).mono ?_
        rintro e w4 ⟨rfl, hb4⟩
        have HB4 := Lib.hid (HB3.out.trans (hb4.mono HB3.out.size))
        clear hb4
        go_wp2_with fail
        go_ret
        exact ⟨ret_bool (by first | rfl | (simp; done) | (simp; omega)), HB4.out⟩
      · have e0 : ((k : Int) == 0) = false := beq_eq_false_iff_ne.2 (by omega)
        have E1 : Hid (mayV 1 0 S.data.toList = false) := HM1.out.trans (by simp; omega)
        have e39 : (x == 39) = false := beq_eq_false_iff_ne.2 (by omega)
        go_wp2_with fail
        refine (text_any _ _).mono ?_
        rintro e w2 ⟨rfl, hb2⟩
        go_wp2_with fail
        refine (may_is 2 0 _ _ _ hsz HM.out).mono ?_
        rintro e w3 ⟨rfl, hb3⟩
        have hb23 : Below wr.heap.size wr w3 := hb2.trans (hb3.mono hb2.size)
        have hconv2 := HC.out w3 _ (fun i hi => by rw [(bcell hb23).1 _ _ HLT.out]; exact HCELL.out i hi)
        have HB3 := Lib.hid (HBR.out.trans (hb23.mono HBR.out.size))
        clear hconv hb2 hb3 hb23
        go_wp2_with fail
        refine (may_is 1 0 _ _ _ hsz E1.out).mono ?_
        rintro e w4 ⟨rfl, hb4⟩
        have HB4 := Lib.hid (HB3.out.trans (hb4.mono HB3.out.size))
        clear hb4
        go_wp2_with fail
        go_ret
        exact ⟨ret_bool (by first | rfl | (simp; done) | (simp; omega)), HB4.out⟩
      · have e0 : ((k : Int) == 0) = false := beq_eq_false_iff_ne.2 (by omega)
        have E1 : Hid (mayV 1 0 S.data.toList = false) := HM1.out.trans (by simp; omega)
        have e39 : (x == 39) = true := beq_iff_eq.2 h4
        have e39n : (x != 39) = false := by rw [bne, e39]; rfl
        have l1 : 32 ≤ x := by omega
        have l2 : x ≤ 126 := by omega
        clear h4
        go_wp2_with fail
        refine (text_any _ _).mono ?_
        rintro e w2 ⟨rfl, hb2⟩
        go_wp2_with fail
        refine (may_is 2 0 _ _ _ hsz HM.out).mono ?_
        rintro e w3 ⟨rfl, hb3⟩
        have hb23 : Below wr.heap.size wr w3 := hb2.trans (hb3.mono hb2.size)
        have hconv2 := HC.out w3 _ (fun i hi => by rw [(bcell hb23).1 _ _ HLT.out]; exact HCELL.out i hi)
        have HB3 := Lib.hid (HBR.out.trans (hb23.mono HBR.out.size))
        clear hconv hb2 hb3 hb23
        go_wp2_with fail
        refine (may_is 1 0 _ _ _ hsz E1.out).mono ?_
        rintro e w4 ⟨rfl, hb4⟩
        have HB4 := Lib.hid (HB3.out.trans (hb4.mono HB3.out.size))
        clear hb4
        go_wp2_with fail
        go_ret
        exact ⟨ret_bool (by first | rfl | (simp; done) | (simp; omega)), HB4.out⟩
      · have e0 : ((k : Int) == 0) = false := beq_eq_false_iff_ne.2 (by omega)
        have E1 : Hid (mayV 1 0 S.data.toList = false) := HM1.out.trans (by simp; omega)
        have e39 : (x == 39) = false := beq_eq_false_iff_ne.2 h6
        go_wp2_with fail
        refine (text_any _ _).mono ?_
        rintro e w2 ⟨rfl, hb2⟩
        go_wp2_with fail
        refine (may_is 2 0 _ _ _ hsz HM.out).mono ?_
        rintro e w3 ⟨rfl, hb3⟩
        have hb23 : Below wr.heap.size wr w3 := hb2.trans (hb3.mono hb2.size)
        have hconv2 := HC.out w3 _ (fun i hi => by rw [(bcell hb23).1 _ _ HLT.out]; exact HCELL.out i hi)
        have HB3 := Lib.hid (HBR.out.trans (hb23.mono HBR.out.size))
        clear hconv hb2 hb3 hb23
        go_wp2_with fail
        refine (may_is 1 0 _ _ _ hsz E1.out).mono ?_
        rintro e w4 ⟨rfl, hb4⟩
        have HB4 := Lib.hid (HB3.out.trans (hb4.mono HB3.out.size))
        clear hb4
        go_wp2_with fail
        go_ret
        exact ⟨ret_bool (by first | rfl | (simp; done) | (simp; omega)), HB4.out⟩

theorem valTexts_walk (n x : Int) (_h1 : -9223372036854775808 ≤ n) (_h2 : n ≤ 9223372036854775807) (x0 : 0 ≤ x) (x1 : x ≤ 255) (w : World) (ht : TabAt w) :
    Calls Tryd.prog 10 #[.int .i64 n, .int .u8 x] w fun e w' => e = .returned (.bool true) ∧ Below w.heap.size w w' := by
  by_cases h : n < 0 ∨ 20 < n
  · have HT := Lib.hid ht
    clear ht
    rcases h with h | h
    · go_enter Tryd.func10, Tryd.ntmps10
      go_wp2_with (go_at_call 11; refine (begun_any _ HT.out).mono ?_; rintro e w' ⟨rfl, hb⟩)
      go_ret
      exact ⟨rfl, hb⟩
    · go_enter Tryd.func10, Tryd.ntmps10
      go_wp2_with (go_at_call 11; refine (begun_any _ HT.out).mono ?_; rintro e w' ⟨rfl, hb⟩)
      go_ret
      exact ⟨rfl, hb⟩
  · obtain ⟨N, rfl⟩ := Int.eq_ofNat_of_zero_le (by omega : 0 ≤ n)
    have hN : N ≤ 20 := by omega
    by_cases c1 : N = 0
    · exact valTexts_core N x w hN x0 x1 ht true (.inl ⟨rfl, c1⟩)
    by_cases c2 : 12 < N
    · exact valTexts_core N x w hN x0 x1 ht false (.inr (.inl ⟨rfl, c2⟩))
    by_cases c3 : x < 32
    · exact valTexts_core N x w hN x0 x1 ht false (.inr (.inr (.inl ⟨rfl, by omega, by omega, c3⟩)))
    by_cases c4 : 126 < x
    · exact valTexts_core N x w hN x0 x1 ht false (.inr (.inr (.inr (.inl ⟨rfl, by omega, by omega, c4⟩))))
    by_cases c5 : x = 39
    · exact valTexts_core N x w hN x0 x1 ht false (.inr (.inr (.inr (.inr (.inl ⟨rfl, by omega, by omega, c5⟩)))))
    · exact valTexts_core N x w hN x0 x1 ht true (.inr (.inr (.inr (.inr (.inr ⟨rfl, by omega, by omega, by omega, by omega, c5⟩)))))
end Go.Proofs.YtkgjfedpjbnjkaaDoor
