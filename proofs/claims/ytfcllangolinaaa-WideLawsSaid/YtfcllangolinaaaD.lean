/- Contract of math/bits.Div64: the quotient. -/
import Derived.Test.YtfcllangolinaaaI
import Derived.Test.YtfcllangolinaaaN
import Derived.BigGuardPart
import Derived.Deep.DeepCutAuto
import Derived.Laws.BitsAllLaws
import Derived.Deep.CutBlock
import Derived.Deep.LoopGhost
namespace Go.Proofs.Ytfcllangolinaaa
open Go Go.RowKit

def QuoIs (q : Int) (w : World) (e : Ending) (w' : World) : Prop := ∃ r n, e = .returned (.tuple #[.int .u64 q, .int .u64 r]) ∧ w' = w.drewN n

set_option maxHeartbeats 400000 in
theorem div64_low (lo y : Int) (w : World) (h1 : 1 ≤ y) (h2 : y < 9223372036854775808) (h3 : 0 ≤ lo) (h4 : lo ≤ 18446744073709551615) :
    Calls Try.prog 32 #[.int .u64 0, .int .u64 lo, .int .u64 y] w (QuoIs (lo / y) w) := by
  have e1 : (y == 0) = false := beq_eq_false_iff_ne.2 (by omega)
  have e2 : decide (y ≤ 0) = false := decide_eq_false (by omega)
  go_enter Try.func32, Try.ntmps32
  go_wp2
  go_quiet (fail)
  go_wp2
  go_ret2
  exact ⟨_, _, rfl, rfl⟩

theorem and32_u64 (a : Int) (h0 : 0 ≤ a) (h1 : a < 18446744073709551616) : bits .and .u64 a 4294967295 = a % 4294967296 := by
  rw [u64_and a 4294967295 h0 h1 (by decide) (by decide)]
  rw [show (4294967295 : Int).toNat = 2 ^ 32 - 1 from rfl, Nat.and_two_pow_sub_one_eq_mod]
  omega
theorem pow_split (s : Nat) (h : s ≤ 64) : (2 : Int) ^ (64 - s) * 2 ^ s = 18446744073709551616 := by rw [← Int.pow_add, show 64 - s + s = 64 from by omega]; rfl
/-- What is shifted: the upper half and the lower one. -/
theorem shift_is (hi lo y : Int) (s : Nat) (h0 : 0 ≤ hi) (h1 : hi < y) (h3 : 0 ≤ lo) (h4 : lo ≤ 18446744073709551615) (h5 : y * 2 ^ s < 18446744073709551616) (hs : s ≤ 63) :
    ∃ u t, bits .or .u64 (IntKind.u64.wrap (hi * 2 ^ s)) (lo / 2 ^ (64 - s)) = u ∧ IntKind.u64.wrap (lo * 2 ^ s) = t ∧ 0 ≤ u ∧ u < y * 2 ^ s ∧ 0 ≤ t ∧ t < 18446744073709551616 ∧ (hi * 18446744073709551616 + lo) * 2 ^ s = u * 18446744073709551616 + t := by
  have hp := pow_split s (by omega)
  have p0 := pow2_pos s
  have p1 := pow2_pos (64 - s)
  have a1 := Int.emod_nonneg lo (by omega : (2 : Int) ^ (64 - s) ≠ 0)
  have a2 := Int.emod_lt_of_pos lo p1
  have a3 := Int.mul_ediv_add_emod lo (2 ^ (64 - s))
  have a4 : 0 ≤ lo / 2 ^ (64 - s) := Int.ediv_nonneg h3 (Int.le_of_lt p1)
  have a5 : lo / 2 ^ (64 - s) < 2 ^ s := Int.ediv_lt_of_lt_mul p1 (by rw [Int.mul_comm, hp]; omega)
  have b1 : (hi + 1) * 2 ^ s ≤ y * 2 ^ s := Int.mul_le_mul_of_nonneg_right (by omega) (Int.le_of_lt p0)
  have b2 : 0 ≤ hi * 2 ^ s := Int.mul_nonneg h0 (Int.le_of_lt p0)
  rw [Int.add_mul, Int.one_mul] at b1
  refine ⟨hi * 2 ^ s + lo / 2 ^ (64 - s), lo * 2 ^ s % 18446744073709551616, ?_, IntKind.wrap_u64 _, by omega, by omega, by omega, by omega, ?_⟩
  · rw [IntKind.wrap_u64, Int.emod_eq_of_lt b2 (by omega), u64_or _ _ b2 (by omega) a4 (by omega)]
    obtain ⟨a, ha⟩ := Int.eq_ofNat_of_zero_le h0
    obtain ⟨b, hb⟩ := Int.eq_ofNat_of_zero_le a4
    rw [hb] at a5 ⊢
    rw [ha]
    have e1 : ((a : Int) * 2 ^ s).toNat = 2 ^ s * a := by
      have : ((2 ^ s * a : Nat) : Int) = (a : Int) * 2 ^ s := by simp [Int.mul_comm]
      omega
    have e2 : b < 2 ^ s := by
      have : ((2 ^ s : Nat) : Int) = 2 ^ s := by simp
      omega
    rw [e1, Int.toNat_natCast, ← Nat.two_pow_add_eq_or_of_lt e2]
    simp [Int.mul_comm]
  · have c1 : lo * 2 ^ s = (lo / 2 ^ (64 - s)) * 18446744073709551616 + (lo % 2 ^ (64 - s)) * 2 ^ s := by
      conv => lhs; rw [← a3]
      rw [Int.add_mul, Int.mul_comm (2 ^ (64 - s)) _, Int.mul_assoc, hp]
    have c2 : 0 ≤ (lo % 2 ^ (64 - s)) * 2 ^ s := Int.mul_nonneg a1 (Int.le_of_lt p0)
    have c3 : (lo % 2 ^ (64 - s)) * 2 ^ s < 18446744073709551616 := by
      have := Int.mul_lt_mul_of_pos_right a2 p0
      rw [hp] at this; exact this
    rw [Int.add_mul, Int.mul_right_comm]
    omega

theorem wrap_three (a b c : Int) (h0 : 0 ≤ a + b - c) (h1 : a + b - c < 18446744073709551616) : IntKind.u64.wrap (IntKind.u64.wrap (IntKind.u64.wrap a + b) - IntKind.u64.wrap c) = a + b - c := by
  rw [IntKind.wrap_u64, IntKind.wrap_u64, IntKind.wrap_u64, IntKind.wrap_u64]; omega
/-- What is shifted, in digits of 32 bits. -/
structure Shifted (N Y u t1 t0 d1 d0 : Int) : Prop where
  hY : d1 * 4294967296 + d0 = Y
  hY0 : 9223372036854775808 ≤ Y
  hY1 : Y < 18446744073709551616
  hd0 : 0 ≤ d0
  hd0' : d0 < 4294967296
  hd1 : 2147483648 ≤ d1
  hd1' : d1 < 4294967296
  hu0 : 0 ≤ u
  hu : u < Y
  ht1 : 0 ≤ t1
  ht1' : t1 < 4294967296
  ht0 : 0 ≤ t0
  ht0' : t0 < 4294967296
  val : N = u * 4294967296 * 4294967296 + t1 * 4294967296 + t0

theorem ret_quo {a b c : Int} (h : a = b) : Ending.returned (.tuple #[.int .u64 a, .int .u64 c]) = .returned (.tuple #[.int .u64 b, .int .u64 c]) := by rw [h]
set_option maxHeartbeats 1000000 in
theorem div64_high (hi lo y : Int) (w : World) (h0 : 1 ≤ hi) (h1 : hi < y) (h2 : y < 9223372036854775808) (h3 : 0 ≤ lo) (h4 : lo ≤ 18446744073709551615) :
    Calls Try.prog 32 #[.int .u64 hi, .int .u64 lo, .int .u64 y] w (QuoIs ((hi * 18446744073709551616 + lo) / y) w) := by
  have e1 : (y == 0) = false := beq_eq_false_iff_ne.2 (by omega)
  have e2 : decide (y ≤ hi) = false := decide_eq_false (by omega)
  have e3 : (hi == 0) = false := beq_eq_false_iff_ne.2 (by omega)
  obtain ⟨s, s1, s2, s3, s4, s5⟩ := lead_is y (by omega) h2
  obtain ⟨u, t, hu, ht, hu0, hu1, ht0, ht1, hN⟩ := shift_is hi lo y s (by omega) h1 h3 h4 s5 s2
  have S3 := Lib.hid s3
  have HQ : Hid ((hi * 18446744073709551616 + lo) / y = (hi * 18446744073709551616 + lo) * 2 ^ s / (y * 2 ^ s)) := Lib.hid (by rw [Int.mul_ediv_mul_of_pos_left _ _ (pow2_pos s)])
  clear s3
  have HN := Lib.hid hN
  clear hN
  go_enter Try.func32, Try.ntmps32
  go_wp2_with fail
  refine (Try.bits_LeadingZeros64 y _ (by omega) (by omega)).mono ?_
  rintro e w' ⟨rfl, rfl⟩
  rw [S3.out]
  have s6 : (s : Int) < 64 := by omega
  have s7 : (0 : Int) ≤ (s : Int) := by omega
  go_upto_region 15 with fail
  generalize y * 2 ^ s = Y at *
  rw [and32_u64 Y (by omega) s5, and32_u64 t ht0 ht1]
  have SH : Shifted ((hi * 18446744073709551616 + lo) * 2 ^ s) Y u (t / 4294967296) (t % 4294967296) (Y / 4294967296) (Y % 4294967296) :=
    ⟨by omega, s4, s5, by omega, by omega, by omega, by omega, hu0, hu1, by omega, by omega, by omega, by omega, by rw [HN.out]; omega⟩
  generalize t / 4294967296 = t1 at *
  generalize t % 4294967296 = t0 at *
  generalize Y / 4294967296 = d1 at *
  generalize Y % 4294967296 = d0 at *
  have G0 := Lib.hid (guess_first u t1 d1 d0 SH.hu0 (by rw [SH.hY]; exact SH.hu) SH.ht1 SH.ht1' SH.hd1 SH.hd1' SH.hd0 SH.hd0')
  have HS := Lib.hid SH
  clear HN hu ht
  obtain ⟨a1, a2, a3, a4, a5, a6, a7, a8, a9, a10, a11, a12, a13, a14⟩ := SH
  have g1 := G0.out.hq0
  have g2 := G0.out.hq
  have g3 := G0.out.hr
  have g4 := G0.out.hr'
  have g5 : 0 ≤ u / d1 * d1 := Int.mul_nonneg g1 (by omega)
  clear a1 a14
  clear g1 g2 g3 g4 g5
  have hq0 : 0 ≤ u / d1 := G0.out.hq0
  have hqr : 0 ≤ u / d1 * d1 := Int.mul_nonneg hq0 (by omega)
  have hqr2 : 0 ≤ u - u / d1 * d1 := G0.out.hr
  go_upto_block 0 with fail
  go_cut [15, 16] (fun qv rv wx => ∃ q r : Int, qv = .int .u64 q ∧ rv = .int .u64 r ∧ Hid (Digit u t1 d1 d0 q) ∧ wx = w')
  case first =>
    generalize u / d1 = q at *
    generalize u - q * d1 = r at *
    go_wp2_with fail
    go_loopg [15, 16] 4294967298 (fun k qv rv wr => ∃ q r : Int, q + 1 ≤ k ∧ qv = .int .u64 q ∧ rv = .int .u64 r ∧ Hid (Guess u t1 d1 d0 q r) ∧ wr = w')
    case atStart => exact ⟨q, r, by have := G0.out.hq; omega, rfl, rfl, G0, rfl⟩
    case round =>
      obtain ⟨q, r, hk, rfl, rfl, G, rfl⟩ := hrel
      have r1 := G.out.hr
      have r2 := G.out.hr'
      have q1 := G.out.hq0
      have q2 := G.out.hq
      by_cases c1 : 4294967296 ≤ q
      · by_cases c2 : 4294967296 ≤ r + d1
        · go_wp2
          go_meet
          exact ⟨q - 1, r + d1, rfl, rfl, Lib.hid (guess_break G.out (.inl c1) c2), rfl⟩
        · go_wp2
          go_roundg q.toNat
          case measure => omega
          case rel => exact ⟨q - 1, r + d1, by omega, rfl, rfl, Lib.hid (guess_next G.out (.inl c1) (by omega)), rfl⟩
      · have p0 : 0 ≤ q * d0 := Int.mul_nonneg q1 a4
        have p1 : q * d0 ≤ 4294967295 * 4294967295 := Int.mul_le_mul (by omega) (by omega) a4 (by decide)
        simp only [Int.reduceMul] at p1
        by_cases c3 : 4294967296 * r + t1 < q * d0
        · have q3 := (guess_high G.out (.inr c3)).1
          by_cases c2 : 4294967296 ≤ r + d1
          · go_wp2
            go_meet
            exact ⟨q - 1, r + d1, rfl, rfl, Lib.hid (guess_break G.out (.inr c3) c2), rfl⟩
          · go_wp2
            go_roundg q.toNat
            case measure => omega
            case rel => exact ⟨q - 1, r + d1, by omega, rfl, rfl, Lib.hid (guess_next G.out (.inr c3) (by omega)), rfl⟩
        · go_wp2
          go_meet
          exact ⟨q, r, rfl, rfl, Lib.hid (guess_done G.out (by omega)), rfl⟩
  case rest =>
    obtain ⟨q, r, rfl, rfl, Q, rfl⟩ := hcut
    clear G0 hq0 hqr hqr2
    obtain ⟨q1, q2, q3, q4⟩ := Q.out
    rw [HS.out.hY] at q3 q4
    have hv : IntKind.u64.wrap (IntKind.u64.wrap (IntKind.u64.wrap (u * 4294967296) + t1) - IntKind.u64.wrap (q * Y)) = u * 4294967296 + t1 - q * Y := wrap_three _ _ _ q3 (by omega)
    generalize hvv : u * 4294967296 + t1 - q * Y = v at *
    have HV := Lib.hid hvv
    clear hvv
    have G1 := Lib.hid (guess_first v t0 d1 d0 q3 (by rw [HS.out.hY]; exact q4) HS.out.ht0 HS.out.ht0' HS.out.hd1 HS.out.hd1' HS.out.hd0 HS.out.hd0')
    have hq0 : 0 ≤ v / d1 := G1.out.hq0
    have hqb : v / d1 ≤ 4294967297 := G1.out.hq
    have hqr : 0 ≤ v / d1 * d1 := Int.mul_nonneg hq0 (by omega)
    have hqr2 : 0 ≤ v - v / d1 * d1 := G1.out.hr
    have HQ1 := Lib.hid q1
    have HQ2 := Lib.hid q2
    obtain ⟨wo, hwo⟩ : ∃ wo : World, wo = wc := ⟨_, rfl⟩
    subst hwo
    obtain ⟨z, hz⟩ : ∃ z, z = q := ⟨_, rfl⟩
    subst hz
    go_upto_block 2 with fail
    clear hv
    go_cut [16, 18] (fun rv qv wx => ∃ q r : Int, qv = .int .u64 q ∧ rv = .int .u64 r ∧ Hid (Digit v t0 d1 d0 q) ∧ wx = wo)
    case first =>
      generalize v / d1 = q at *
      generalize v - q * d1 = r at *
      go_wp2_with fail
      go_loopg [16, 18] 4294967298 (fun k rv qv wr => ∃ q r : Int, q + 1 ≤ k ∧ qv = .int .u64 q ∧ rv = .int .u64 r ∧ Hid (Guess v t0 d1 d0 q r) ∧ wr = wo)
      case atStart => exact ⟨q, r, by omega, rfl, rfl, G1, rfl⟩
      case round =>
        clear q1 q2 q3 q4
        obtain ⟨q, r, hk, rfl, rfl, G, rfl⟩ := hrel
        have r1 := G.out.hr
        have r2 := G.out.hr'
        have q1 := G.out.hq0
        have q2 := G.out.hq
        by_cases c1 : 4294967296 ≤ q
        · by_cases c2 : 4294967296 ≤ r + d1
          · go_wp2
            go_meet
            exact ⟨q - 1, r + d1, rfl, rfl, Lib.hid (guess_break G.out (.inl c1) c2), rfl⟩
          · go_wp2
            go_roundg q.toNat
            case measure => omega
            case rel => exact ⟨q - 1, r + d1, by omega, rfl, rfl, Lib.hid (guess_next G.out (.inl c1) (by omega)), rfl⟩
        · have p0 : 0 ≤ q * d0 := Int.mul_nonneg q1 a4
          have p1 : q * d0 ≤ 4294967295 * 4294967295 := Int.mul_le_mul (by omega) (by omega) a4 (by decide)
          simp only [Int.reduceMul] at p1
          by_cases c3 : 4294967296 * r + t0 < q * d0
          · have q3 := (guess_high G.out (.inr c3)).1
            by_cases c2 : 4294967296 ≤ r + d1
            · go_wp2
              go_meet
              exact ⟨q - 1, r + d1, rfl, rfl, Lib.hid (guess_break G.out (.inr c3) c2), rfl⟩
            · go_wp2
              go_roundg q.toNat
              case measure => omega
              case rel => exact ⟨q - 1, r + d1, by omega, rfl, rfl, Lib.hid (guess_next G.out (.inr c3) (by omega)), rfl⟩
          · go_wp2
            go_meet
            exact ⟨q, r, rfl, rfl, Lib.hid (guess_done G.out (by omega)), rfl⟩
    case rest =>
      obtain ⟨q, r', rfl, rfl, Q2, rfl⟩ := hcut
      obtain ⟨w1, w2, w3, w4⟩ := Q2.out
      rw [HS.out.hY] at w3 w4
      clear G1 hq0 hqb hqr hqr2
      go_wp2
      go_ret2
      refine ⟨_, 0, ret_quo ?_, rfl⟩
      rw [HQ.out, HS.out.val]
      exact (two_digits (by omega) HV.out w3 w4).symm
end Go.Proofs.Ytfcllangolinaaa
