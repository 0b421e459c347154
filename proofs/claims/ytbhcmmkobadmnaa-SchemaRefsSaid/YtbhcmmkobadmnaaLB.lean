/- SchemaRefs: its walk. -/
import Derived.Test.YtbhcmmkobadmnaaLA
namespace Go.Proofs.Ytbhcmmkobadmnaa
open Go Go.RowKit Go.Proofs

abbrev bA : ByteArray := ⟨#[97]⟩
abbrev bB : ByteArray := ⟨#[98]⟩
abbrev bC : ByteArray := ⟨#[99]⟩
abbrev bY : ByteArray := ⟨#[121]⟩
def tA (k : Int) (key : Bool) : T := ⟨bA, [⟨bId, k, false, e0⟩], if key then bId else e0, []⟩
def tB (k : Int) : T := ⟨bB, [⟨bX, k, false, bA⟩], e0, []⟩
def tC (k : Int) : T := ⟨bC, [⟨bY, k, false, bC⟩], bY, []⟩
def tsA (k : Int) (key : Bool) : List T := [formT (tA k key)]
theorem sm_A (k : Int) (key : Bool) : Sm (tA k key) := small_of (t := tA k key) (show bA.size ≤ 20 by decide) (show ([⟨bId, k, false, e0⟩] : List C).all _ = true from rfl)
theorem sm_B (k : Int) : Sm (tB k) := small_of (t := tB k) (show bB.size ≤ 20 by decide) (show ([⟨bX, k, false, bA⟩] : List C).all _ = true from rfl)
theorem sm_C (k : Int) : Sm (tC k) := small_of (t := tC k) (show bC.size ≤ 20 by decide) (show ([⟨bY, k, false, bC⟩] : List C).all _ = true from rfl)
set_option maxRecDepth 100000 in
set_option maxHeartbeats 4000000 in
theorem refs_f_f {kind target : Int} (W : World) (hk : 1 ≤ kind ∧ kind ≤ 2) (ht : 1 ≤ target ∧ target ≤ 2) (hB : mayP [] (tB kind) = 3) : Calls Try.prog 5 #[.int .i64 kind, .int .i64 target, .bool false, .bool false] W fun e w' => e = .returned (.bool true) ∧ Below W.heap.size W w' := by
  obtain ⟨k1, k2⟩ := hk
  obtain ⟨t1, t2⟩ := ht
  go_enter Try.func5, Try.ntmps5
  go_wp2_with fail
  refine (begun_any _).mono ?_
  rintro e w0 ⟨rfl, hb0⟩
  have H0 := Lib.hid hb0
  clear hb0
  go_wp2_with fail
  refine (new_any _).mono ?_
  rintro e w1 ⟨rfl, hs, hb⟩
  have D0 := Lib.hid (St.new H0.out hs hb)
  clear hs hb
  obtain ⟨S, hS⟩ : ∃ S, w0.heap.size = S := ⟨_, rfl⟩
  rw [hS] at D0 ⊢
  clear hS
  go_wp2_with fail
  refine (lcol_any bX bA kind _).mono ?_
  rintro e a1 ⟨rfl, hb⟩
  have A1 := Lib.hid (D0.out.on hb)
  clear hb
  go_wp2_with fail
  refine (lone_any bB e0 ⟨bX, kind, false, bA⟩ _).mono ?_
  rintro e b1 ⟨g1, rfl, hg, hb⟩
  have B1 := Lib.hid (And.intro hg (A1.out.on hb))
  clear hg hb
  go_wp2_with fail
  refine (add_is (t := tB kind) rfl rfl ⟨RdC.lit (l := (tB kind).cols) B1.out.1 (show 1 ≤ maxLen by decide), RdD.none _⟩ B1.out.2.sch (sm_B kind) hB rfl).mono ?_
  rintro e d1 ⟨rfl, hs, hc⟩
  have D1 := Lib.hid (B1.out.2.add hs hc)
  clear hs hc
  go_wp2_with fail
  go_ret
  exact ⟨rfl, D1.out.below⟩
set_option maxRecDepth 100000 in
set_option maxHeartbeats 4000000 in
theorem refs_f_t {kind target : Int} (W : World) (hk : 1 ≤ kind ∧ kind ≤ 2) (ht : 1 ≤ target ∧ target ≤ 2) (hB : mayP [] (tB kind) = 3) : Calls Try.prog 5 #[.int .i64 kind, .int .i64 target, .bool true, .bool false] W fun e w' => e = .returned (.bool true) ∧ Below W.heap.size W w' := by
  obtain ⟨k1, k2⟩ := hk
  obtain ⟨t1, t2⟩ := ht
  go_enter Try.func5, Try.ntmps5
  go_wp2_with fail
  refine (begun_any _).mono ?_
  rintro e w0 ⟨rfl, hb0⟩
  have H0 := Lib.hid hb0
  clear hb0
  go_wp2_with fail
  refine (new_any _).mono ?_
  rintro e w1 ⟨rfl, hs, hb⟩
  have D0 := Lib.hid (St.new H0.out hs hb)
  clear hs hb
  obtain ⟨S, hS⟩ : ∃ S, w0.heap.size = S := ⟨_, rfl⟩
  rw [hS] at D0 ⊢
  clear hS
  go_wp2_with fail
  refine (lcol_any bX bA kind _).mono ?_
  rintro e a2 ⟨rfl, hb⟩
  have A2 := Lib.hid (D0.out.on hb)
  clear hb
  go_wp2_with fail
  refine (lone_any bB e0 ⟨bX, kind, false, bA⟩ _).mono ?_
  rintro e b2 ⟨g2, rfl, hg, hb⟩
  have B2 := Lib.hid (And.intro hg (A2.out.on hb))
  clear hg hb
  go_wp2_with fail
  refine (add_is (t := tB kind) rfl rfl ⟨RdC.lit (l := (tB kind).cols) B2.out.1 (show 1 ≤ maxLen by decide), RdD.none _⟩ B2.out.2.sch (sm_B kind) hB rfl).mono ?_
  rintro e d2 ⟨rfl, hs, hc⟩
  have D2 := Lib.hid (B2.out.2.add hs hc)
  clear hs hc
  go_wp2_with fail
  go_ret
  exact ⟨rfl, D2.out.below⟩
set_option maxRecDepth 100000 in
set_option maxHeartbeats 4000000 in
theorem refs_t_f {kind target : Int} (W : World) (hk : 1 ≤ kind ∧ kind ≤ 2) (ht : 1 ≤ target ∧ target ≤ 2) (hA : mayP [] (tA target false) = 0) (hA2 : addT [] (tA target false) = tsA target false) (hB : mayP (tsA target false) (tB kind) = 9) : Calls Try.prog 5 #[.int .i64 kind, .int .i64 target, .bool false, .bool true] W fun e w' => e = .returned (.bool true) ∧ Below W.heap.size W w' := by
  obtain ⟨k1, k2⟩ := hk
  obtain ⟨t1, t2⟩ := ht
  go_enter Try.func5, Try.ntmps5
  go_wp2_with fail
  refine (begun_any _).mono ?_
  rintro e w0 ⟨rfl, hb0⟩
  have H0 := Lib.hid hb0
  clear hb0
  go_wp2_with fail
  refine (new_any _).mono ?_
  rintro e w1 ⟨rfl, hs, hb⟩
  have D0 := Lib.hid (St.new H0.out hs hb)
  clear hs hb
  obtain ⟨S, hS⟩ : ∃ S, w0.heap.size = S := ⟨_, rfl⟩
  rw [hS] at D0 ⊢
  clear hS
  go_wp2_with fail
  refine (lcol_any bId e0 target _).mono ?_
  rintro e a3 ⟨rfl, hb⟩
  have A3 := Lib.hid (D0.out.on hb)
  clear hb
  go_wp2_with fail
  refine (lone_any bA e0 ⟨bId, target, false, e0⟩ _).mono ?_
  rintro e b3 ⟨g3, rfl, hg, hb⟩
  have B3 := Lib.hid (And.intro hg (A3.out.on hb))
  clear hg hb
  go_wp2_with fail
  refine (add_is (t := tA target false) rfl rfl ⟨RdC.lit (l := (tA target false).cols) B3.out.1 (show 1 ≤ maxLen by decide), RdD.none _⟩ B3.out.2.sch (sm_A target false) hA hA2).mono ?_
  rintro e d3 ⟨rfl, hs, hc⟩
  have D3 := Lib.hid (B3.out.2.add hs hc)
  clear hs hc
  go_wp2_with fail
  refine (lcol_any bX bA kind _).mono ?_
  rintro e a4 ⟨rfl, hb⟩
  have A4 := Lib.hid (D3.out.on hb)
  clear hb
  go_wp2_with fail
  refine (lone_any bB e0 ⟨bX, kind, false, bA⟩ _).mono ?_
  rintro e b4 ⟨g4, rfl, hg, hb⟩
  have B4 := Lib.hid (And.intro hg (A4.out.on hb))
  clear hg hb
  go_wp2_with fail
  refine (add_is (t := tB kind) rfl rfl ⟨RdC.lit (l := (tB kind).cols) B4.out.1 (show 1 ≤ maxLen by decide), RdD.none _⟩ B4.out.2.sch (sm_B kind) hB rfl).mono ?_
  rintro e d4 ⟨rfl, hs, hc⟩
  have D4 := Lib.hid (B4.out.2.add hs hc)
  clear hs hc
  go_wp2_with fail
  go_ret
  exact ⟨rfl, D4.out.below⟩
set_option maxRecDepth 100000 in
set_option maxHeartbeats 4000000 in
theorem refs_t_ne {kind target : Int} (W : World) (hk : 1 ≤ kind ∧ kind ≤ 2) (ht : 1 ≤ target ∧ target ≤ 2) (hA : mayP [] (tA target true) = 0) (hA2 : addT [] (tA target true) = tsA target true) (hB : mayP (tsA target true) (tB kind) = 4) (hkt : (kind != target) = true) : Calls Try.prog 5 #[.int .i64 kind, .int .i64 target, .bool true, .bool true] W fun e w' => e = .returned (.bool true) ∧ Below W.heap.size W w' := by
  obtain ⟨k1, k2⟩ := hk
  obtain ⟨t1, t2⟩ := ht
  go_enter Try.func5, Try.ntmps5
  go_wp2_with fail
  refine (begun_any _).mono ?_
  rintro e w0 ⟨rfl, hb0⟩
  have H0 := Lib.hid hb0
  clear hb0
  go_wp2_with fail
  refine (new_any _).mono ?_
  rintro e w1 ⟨rfl, hs, hb⟩
  have D0 := Lib.hid (St.new H0.out hs hb)
  clear hs hb
  obtain ⟨S, hS⟩ : ∃ S, w0.heap.size = S := ⟨_, rfl⟩
  rw [hS] at D0 ⊢
  clear hS
  go_wp2_with fail
  refine (lcol_any bId e0 target _).mono ?_
  rintro e a5 ⟨rfl, hb⟩
  have A5 := Lib.hid (D0.out.on hb)
  clear hb
  go_wp2_with fail
  refine (lone_any bA bId ⟨bId, target, false, e0⟩ _).mono ?_
  rintro e b5 ⟨g5, rfl, hg, hb⟩
  have B5 := Lib.hid (And.intro hg (A5.out.on hb))
  clear hg hb
  go_wp2_with fail
  refine (add_is (t := tA target true) rfl rfl ⟨RdC.lit (l := (tA target true).cols) B5.out.1 (show 1 ≤ maxLen by decide), RdD.none _⟩ B5.out.2.sch (sm_A target true) hA hA2).mono ?_
  rintro e d5 ⟨rfl, hs, hc⟩
  have D5 := Lib.hid (B5.out.2.add hs hc)
  clear hs hc
  go_wp2_with fail
  refine (lcol_any bX bA kind _).mono ?_
  rintro e a6 ⟨rfl, hb⟩
  have A6 := Lib.hid (D5.out.on hb)
  clear hb
  go_wp2_with fail
  refine (lone_any bB e0 ⟨bX, kind, false, bA⟩ _).mono ?_
  rintro e b6 ⟨g6, rfl, hg, hb⟩
  have B6 := Lib.hid (And.intro hg (A6.out.on hb))
  clear hg hb
  go_wp2_with fail
  refine (add_is (t := tB kind) rfl rfl ⟨RdC.lit (l := (tB kind).cols) B6.out.1 (show 1 ≤ maxLen by decide), RdD.none _⟩ B6.out.2.sch (sm_B kind) hB rfl).mono ?_
  rintro e d6 ⟨rfl, hs, hc⟩
  have D6 := Lib.hid (B6.out.2.add hs hc)
  clear hs hc
  go_wp2_with fail
  go_ret
  exact ⟨rfl, D6.out.below⟩
set_option maxRecDepth 100000 in
set_option maxHeartbeats 4000000 in
theorem refs_t_eq {kind target : Int} (W : World) (hk : 1 ≤ kind ∧ kind ≤ 2) (ht : 1 ≤ target ∧ target ≤ 2) (hA : mayP [] (tA target true) = 0) (hA2 : addT [] (tA target true) = tsA target true) (hB : mayP (tsA target true) (tB kind) = 0) (hC : mayP (addT (tsA target true) (tB kind)) (tC kind) = 3) (hkt : (kind != target) = false) : Calls Try.prog 5 #[.int .i64 kind, .int .i64 target, .bool true, .bool true] W fun e w' => e = .returned (.bool true) ∧ Below W.heap.size W w' := by
  obtain ⟨k1, k2⟩ := hk
  obtain ⟨t1, t2⟩ := ht
  go_enter Try.func5, Try.ntmps5
  go_wp2_with fail
  refine (begun_any _).mono ?_
  rintro e w0 ⟨rfl, hb0⟩
  have H0 := Lib.hid hb0
  clear hb0
  go_wp2_with fail
  refine (new_any _).mono ?_
  rintro e w1 ⟨rfl, hs, hb⟩
  have D0 := Lib.hid (St.new H0.out hs hb)
  clear hs hb
  obtain ⟨S, hS⟩ : ∃ S, w0.heap.size = S := ⟨_, rfl⟩
  rw [hS] at D0 ⊢
  clear hS
  go_wp2_with fail
  refine (lcol_any bId e0 target _).mono ?_
  rintro e a7 ⟨rfl, hb⟩
  have A7 := Lib.hid (D0.out.on hb)
  clear hb
  go_wp2_with fail
  refine (lone_any bA bId ⟨bId, target, false, e0⟩ _).mono ?_
  rintro e b7 ⟨g7, rfl, hg, hb⟩
  have B7 := Lib.hid (And.intro hg (A7.out.on hb))
  clear hg hb
  go_wp2_with fail
  refine (add_is (t := tA target true) rfl rfl ⟨RdC.lit (l := (tA target true).cols) B7.out.1 (show 1 ≤ maxLen by decide), RdD.none _⟩ B7.out.2.sch (sm_A target true) hA hA2).mono ?_
  rintro e d7 ⟨rfl, hs, hc⟩
  have D7 := Lib.hid (B7.out.2.add hs hc)
  clear hs hc
  go_wp2_with fail
  refine (lcol_any bX bA kind _).mono ?_
  rintro e a8 ⟨rfl, hb⟩
  have A8 := Lib.hid (D7.out.on hb)
  clear hb
  go_wp2_with fail
  refine (lone_any bB e0 ⟨bX, kind, false, bA⟩ _).mono ?_
  rintro e b8 ⟨g8, rfl, hg, hb⟩
  have B8 := Lib.hid (And.intro hg (A8.out.on hb))
  clear hg hb
  go_wp2_with fail
  refine (add_is (t := tB kind) rfl rfl ⟨RdC.lit (l := (tB kind).cols) B8.out.1 (show 1 ≤ maxLen by decide), RdD.none _⟩ B8.out.2.sch (sm_B kind) hB rfl).mono ?_
  rintro e d8 ⟨rfl, hs, hc⟩
  have D8 := Lib.hid (B8.out.2.add hs hc)
  clear hs hc
  go_wp2_with fail
  refine (lcol_any bY bC kind _).mono ?_
  rintro e a9 ⟨rfl, hb⟩
  have A9 := Lib.hid (D8.out.on hb)
  clear hb
  go_wp2_with fail
  refine (lone_any bC bY ⟨bY, kind, false, bC⟩ _).mono ?_
  rintro e b9 ⟨g9, rfl, hg, hb⟩
  have B9 := Lib.hid (And.intro hg (A9.out.on hb))
  clear hg hb
  go_wp2_with fail
  refine (add_is (t := tC kind) rfl rfl ⟨RdC.lit (l := (tC kind).cols) B9.out.1 (show 1 ≤ maxLen by decide), RdD.none _⟩ B9.out.2.sch (sm_C kind) hC rfl).mono ?_
  rintro e d9 ⟨rfl, hs, hc⟩
  have D9 := Lib.hid (B9.out.2.add hs hc)
  clear hs hc
  go_wp2_with fail
  go_ret
  exact ⟨rfl, D9.out.below⟩

set_option maxRecDepth 100000 in
set_option maxHeartbeats 8000000 in
theorem refs_walk (kind target : Int) (key there : Bool) (W : World) : Calls Try.prog 5 #[.int .i64 kind, .int .i64 target, .bool key, .bool there] W fun e w' => e = .returned (.bool true) ∧ Below W.heap.size W w' := by
  by_cases k1 : kind < 1
  · go_enter Try.func5, Try.ntmps5
    go_wp2_with (go_at_call 8; (with_reducible refine (begun_any _).mono ?_); rintro e w0 ⟨rfl, hb⟩)
    go_ret
    exact ⟨rfl, hb⟩
  by_cases k2 : 2 < kind
  · go_enter Try.func5, Try.ntmps5
    go_wp2_with (go_at_call 8; (with_reducible refine (begun_any _).mono ?_); rintro e w0 ⟨rfl, hb⟩)
    go_ret
    exact ⟨rfl, hb⟩
  by_cases k3 : target < 1
  · go_enter Try.func5, Try.ntmps5
    go_wp2_with (go_at_call 8; (with_reducible refine (begun_any _).mono ?_); rintro e w0 ⟨rfl, hb⟩)
    go_ret
    exact ⟨rfl, hb⟩
  by_cases k4 : 2 < target
  · go_enter Try.func5, Try.ntmps5
    go_wp2_with (go_at_call 8; (with_reducible refine (begun_any _).mono ?_); rintro e w0 ⟨rfl, hb⟩)
    go_ret
    exact ⟨rfl, hb⟩
  have hk : kind = 1 ∨ kind = 2 := by omega
  have ht : target = 1 ∨ target = 2 := by omega
  clear k1 k2 k3 k4
  cases key
  · cases there
    · exact refs_f_f W ⟨by omega, by omega⟩ ⟨by omega, by omega⟩ (by rcases hk with rfl | rfl <;> decide +kernel)
    · refine refs_t_f W ⟨by omega, by omega⟩ ⟨by omega, by omega⟩ ?_ ?_ ?_
      · rcases ht with rfl | rfl <;> decide +kernel
      · unfold addT; rw [if_pos (by rcases ht with rfl | rfl <;> decide +kernel)]; rfl
      · rcases hk with rfl | rfl <;> rcases ht with rfl | rfl <;> decide +kernel
  · cases there
    · exact refs_f_t W ⟨by omega, by omega⟩ ⟨by omega, by omega⟩ (by rcases hk with rfl | rfl <;> decide +kernel)
    · by_cases he : kind = target
      · subst he
        refine refs_t_eq W ⟨by omega, by omega⟩ ⟨by omega, by omega⟩ ?_ ?_ ?_ ?_ (by simp)
        · rcases hk with rfl | rfl <;> decide +kernel
        · unfold addT; rw [if_pos (by rcases hk with rfl | rfl <;> decide +kernel)]; rfl
        · rcases hk with rfl | rfl <;> decide +kernel
        · rcases hk with rfl | rfl <;> decide +kernel
      · refine refs_t_ne W ⟨by omega, by omega⟩ ⟨by omega, by omega⟩ ?_ ?_ ?_ (by simp [he])
        · rcases ht with rfl | rfl <;> decide +kernel
        · unfold addT; rw [if_pos (by rcases ht with rfl | rfl <;> decide +kernel)]; rfl
        · rcases hk with rfl | rfl <;> rcases ht with rfl | rfl <;> first | exact absurd rfl he | decide +kernel
end Go.Proofs.Ytbhcmmkobadmnaa
