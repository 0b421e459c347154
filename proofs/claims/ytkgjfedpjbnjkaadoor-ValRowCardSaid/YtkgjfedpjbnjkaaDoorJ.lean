/- Contracts: Digits, the reference's Text. -/
import Derived.Test.YtkgjfedpjbnjkaaDoorC
import Derived.Lib.ItoaNum
import Derived.Lib.ItoaLen
import Derived.Laws.BytesArg
namespace Go.Proofs.YtkgjfedpjbnjkaaDoor
open Go Go.RowKit

def byteOf (x : Int) : UInt8 := UInt8.ofNat x.toNat
theorem conv1 (w : World) (x : Int) : (convert 43 9 (.slice (some ⟨w.heap.size, 0, none⟩) 1 1)).run Tryd.prog (w.alloc (.cells #[.int .u8 x] 5)) = .ok (.string ⟨#[byteOf x]⟩) (w.alloc (.cells #[.int .u8 x] 5)) :=
  run_convert_bytes_arg (P := Tryd.prog) (w.alloc (.cells #[.int .u8 x] 5)) 43 5 Tryd.underlying43 Tryd.underlying5 w.heap.size 0 1 1 [x] rfl
    (fun i hi => by obtain rfl : i = 0 := by omega
                    rw [World.cell?_alloc_mark]
                    rfl) 9 Tryd.underlying9
theorem cons_str (d : UInt8) (l : List UInt8) : (⟨#[d]⟩ ++ ⟨l.toArray⟩ : ByteArray) = ⟨(d :: l).toArray⟩ := by
  rw [ByteArray.mk_append_mk]; simp
theorem dig_byte (u : Nat) : byteOf ((48 : Int) + (u : Int) % 10) = UInt8.ofNat (48 + u % 10) := by
  unfold byteOf; congr 1
theorem len_l (n : Nat) (hn : (n : Int) ≤ 9223372036854775807) (d l : List UInt8) (h : Lib.decDigits n = d ++ l) : l.length ≤ 21 := by
  have h1 := Lib.itoa_length_le n (by omega) hn
  have h2 : Lib.itoa (n : Int) = Lib.decDigits n := by unfold Lib.itoa; rw [if_neg (by omega)]; simp
  rw [h2, h] at h1
  simp at h1
  omega
theorem dec_step (u : Nat) (h : ¬ u < 10) : Lib.decDigits u = Lib.decDigits (u / 10) ++ [UInt8.ofNat (48 + u % 10)] := by
  rw [Lib.decDigits, dif_neg h]
theorem dec_last (u : Nat) (h : u < 10) : Lib.decDigits u = [UInt8.ofNat (48 + u % 10)] := by
  rw [Lib.decDigits, dif_pos h, Nat.mod_eq_of_lt h]
theorem len_l2 (n : Int) (hn : -9223372036854775808 ≤ n) (h0 : n < 0) (m : Nat) (hm : Lib.itoa n = 45 :: Lib.decDigits m) (d l : List UInt8) (h : Lib.decDigits m = d ++ l) : l.length ≤ 21 := by
  have h1 := Lib.itoa_length_le n hn (by omega)
  rw [hm, h] at h1
  simp at h1
  omega
theorem ret_str {a b : ByteArray} (h : a = b) : Ending.returned (.string a) = .returned (.string b) := by rw [h]

set_option maxHeartbeats 1000000 in
theorem digits_pos (n : Nat) (w : World) (hn : (n : Int) ≤ 9223372036854775807) :
    Calls Tryd.prog 38 #[.int .i64 (n : Int)] w fun e w' => e = .returned (.string ⟨(Lib.itoa n).toArray⟩) ∧ Below w.heap.size w w' := by
  have hit : Lib.itoa (n : Int) = Lib.decDigits n := by unfold Lib.itoa; rw [if_neg (by omega)]; simp
  rw [hit]
  clear hit
  go_enter Tryd.func38, Tryd.ntmps38
  go_wp2
  go_loopw [3, 4] (fun t s w1 => ∃ (u : Nat) (l : List UInt8), u ≤ n ∧ t = .int .u64 u ∧ s = .string ⟨l.toArray⟩ ∧ Lib.decDigits n = Lib.decDigits u ++ l ∧ Below w.heap.size w w1) (fun t _ _ => (intOf t).toNat)
  case atStart => exact ⟨n, [], Nat.le_refl _, rfl, rfl, by simp, Below.refl _ _⟩
  case round =>
    obtain ⟨u, l, hu, rfl, rfl, hd, hb⟩ := hrel
    have H := Lib.hid hd
    have hlen := len_l n hn _ _ hd
    clear hd
    have hconv := conv1 wr
    have hb2 : Below w.heap.size w (wr.alloc (.cells #[.int .u8 (48 + (u : Int) % 10)] 5)) := hb.alloc hb.size _
    have HB := Lib.hid hb2
    clear hb2
    by_cases h10 : u < 10
    · have hq : ((u : Int) / 10 == 0) = true := beq_iff_eq.2 (by omega)
      go_wp2
      go_ret
      refine ⟨ret_str ?_, HB.out⟩
      rw [dig_byte, cons_str, H.out, dec_last u h10]; rfl
    · have hq : ((u : Int) / 10 == 0) = false := beq_eq_false_iff_ne.2 (by omega)
      go_wp2
      refine ⟨⟨u / 10, (byteOf (48 + (u : Int) % 10)) :: l, by omega, by go_num, by rw [cons_str], ?_, HB.out⟩, ?_⟩
      · rw [H.out, dec_step u h10, dig_byte]; simp
      · simp [intOf]; omega

set_option maxHeartbeats 1000000 in
theorem digits_neg (n : Int) (w : World) (hn : -9223372036854775808 ≤ n) (h0 : n < 0) :
    Calls Tryd.prog 38 #[.int .i64 n] w fun e w' => e = .returned (.string ⟨(Lib.itoa n).toArray⟩) ∧ Below w.heap.size w w' := by
  obtain ⟨m, hm⟩ : ∃ m : Nat, m = n.natAbs := ⟨_, rfl⟩
  have hU : IntKind.u64.wrap (-IntKind.u64.wrap n) = (m : Int) := by
    have e1 : IntKind.u64.wrap n = n + 18446744073709551616 := by unfold IntKind.wrap; simp [IntKind.bits, IntKind.signed]; omega
    rw [e1]; unfold IntKind.wrap; simp [IntKind.bits, IntKind.signed]; omega
  have HU := Lib.hid hU
  have hm2 : m ≤ 9223372036854775808 := by omega
  have hit : Lib.itoa n = 45 :: Lib.decDigits m := by unfold Lib.itoa; rw [if_pos h0, hm]
  have HM := Lib.hid hit
  clear hU hit hm
  go_enter Tryd.func38, Tryd.ntmps38
  go_wp2
  go_loopw [3, 4] (fun t s w1 => ∃ (u : Nat) (l : List UInt8), u ≤ m ∧ t = .int .u64 u ∧ s = .string ⟨l.toArray⟩ ∧ Lib.decDigits m = Lib.decDigits u ++ l ∧ Below w.heap.size w w1) (fun t _ _ => (intOf t).toNat)
  case atStart => exact ⟨m, [], Nat.le_refl _, by rw [HU.out], rfl, by simp, Below.refl _ _⟩
  case round =>
    obtain ⟨u, l, hu, rfl, rfl, hd, hb⟩ := hrel
    have H := Lib.hid hd
    have hlen := len_l2 n hn h0 m HM.out _ _ hd
    clear hd
    have hconv := conv1 wr
    have hb2 : Below w.heap.size w (wr.alloc (.cells #[.int .u8 (48 + (u : Int) % 10)] 5)) := hb.alloc hb.size _
    have HB := Lib.hid hb2
    clear hb2
    by_cases h10 : u < 10
    · have hq : ((u : Int) / 10 == 0) = true := beq_iff_eq.2 (by omega)
      go_wp2
      go_ret
      refine ⟨ret_str ?_, HB.out⟩
      rw [dig_byte, cons_str, cons_str, HM.out, H.out, dec_last u h10]; rfl
    · have hq : ((u : Int) / 10 == 0) = false := beq_eq_false_iff_ne.2 (by omega)
      go_wp2
      refine ⟨⟨u / 10, (byteOf (48 + (u : Int) % 10)) :: l, by omega, by go_num, by rw [cons_str], ?_, HB.out⟩, ?_⟩
      · rw [H.out, dec_step u h10, dig_byte]; simp
      · simp [intOf]; omega

theorem digits_any (n : Int) (w : World) (h0 : -9223372036854775808 ≤ n) (h1 : n ≤ 9223372036854775807) :
    Calls Tryd.prog 38 #[.int .i64 n] w fun e w' => e = .returned (.string ⟨(Lib.itoa n).toArray⟩) ∧ Below w.heap.size w w' := by
  by_cases h : n < 0
  · exact digits_neg n w h0 h
  · obtain ⟨m, rfl⟩ := Int.eq_ofNat_of_zero_le (by omega : 0 ≤ n)
    exact digits_pos m w h1

/-- A value's text, as it may be. -/
def textV (k n : Int) (s : ByteArray) : ByteArray := if k = 1 then ⟨(Lib.itoa n).toArray⟩ else if k = 2 then ⟨#[39]⟩ ++ s ++ ⟨#[39]⟩ else ⟨#[110, 117, 108, 108]⟩

theorem refText_any (k n : Int) (s : ByteArray) (w : World) (h0 : -9223372036854775808 ≤ n) (h1 : n ≤ 9223372036854775807) (hs : s.size ≤ 1000) :
    Calls Tryd.prog 22 #[.agg #[.int .i64 k, .int .i64 n, .string s]] w fun e w' => e = .returned (.string (textV k n s)) ∧ Below w.heap.size w w' := by
  by_cases k1 : k = 1
  · subst k1
    go_enter Tryd.func22, Tryd.ntmps22
    go_wp2_with (go_at_call 38; refine (digits_any _ _ h0 h1).mono ?_; rintro e w' ⟨rfl, hb⟩)
    go_ret
    exact ⟨rfl, (below_alloc1 _ _).trans (hb.mono (by simp))⟩
  by_cases k2 : k = 2
  · subst k2
    go_enter Tryd.func22, Tryd.ntmps22
    go_wp2
    go_ret
    exact ⟨rfl, below_alloc1 _ _⟩
  · go_enter Tryd.func22, Tryd.ntmps22
    go_wp2
    go_ret
    exact ⟨ret_str (by unfold textV; rw [if_neg k1, if_neg k2]), below_alloc1 _ _⟩
end Go.Proofs.YtkgjfedpjbnjkaaDoor
