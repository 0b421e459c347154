/- TableNumbers. -/
import Derived.Test.YtffpmmphpdkkbaaGreatMTT
namespace Go.Proofs.YtffpmmphpdkkbaaGreat
open Go Go.RowKit Go.Proofs Co Co.S
/-- A slice of bools that can be read. -/
def RdB (W : World) (p : Option Addr) (n : Nat) (F : Nat → Bool) : Prop := ∀ i, i < n → ∃ b off, p = some ⟨b, off, none⟩ ∧ b < W.heap.size ∧ W.cell? ⟨b, off + i, none⟩ = some (.bool (F i))
abbrev xrows (A : List R1) : Prop := ∀ a ∈ A, a.2 = rowL a.1 bx
theorem words0 : ∀ s, s ∈ ([] : List (K 12)) ↔ ∃ a ∈ ([] : List R1), ∃ y, a.2[1]? = some y ∧ y.1 = 2 ∧ wd y.2.2 = s := fun s => ⟨fun h => (by cases h), fun ⟨a, ha, _⟩ => (by cases ha)⟩
theorem wordsx {a0 : R1} {A : List R1} (h : xrows (a0 :: A)) : ∀ s, s ∈ [wd bx] ↔ ∃ a ∈ a0 :: A, ∃ y, a.2[1]? = some y ∧ y.1 = 2 ∧ wd y.2.2 = s := fun s => ⟨fun hs => ⟨a0, List.mem_cons_self, (2, 0, bx), by rw [h a0 List.mem_cons_self]; rfl, rfl, (List.mem_singleton.1 hs).symm⟩, fun ⟨a, ha, y, hy, _, he⟩ => by
  rw [h a ha] at hy
  cases hy
  rw [← he]
  exact List.mem_singleton.2 rfl⟩
theorem insx (id : Int) : insE tShop (rowL id bx) = 0 := rfl
theorem smallx (id : Int) : ∀ x ∈ rowL id bx, x.2.2.size ≤ maxLen := small_row (fun x hx => by
  rcases List.mem_cons.1 hx with rfl | hx
  · show e0.size ≤ 12; decide
  rcases List.mem_cons.1 hx with rfl | hx
  · show bx.size ≤ 12; decide
  rcases List.mem_cons.1 hx with rfl | hx
  · decide
  · rw [List.mem_singleton.1 hx]; decide)
set_option maxRecDepth 100000 in
set_option maxHeartbeats 4000000 in
theorem numbers_law (p : Option Addr) (n c : Nat) (F : Nat → Bool) (W : World) (hP : RdB W p n F) (hn : n ≤ maxLen) : Calls Tryz.prog 6 #[.slice p n c] W fun e w' => e = .returned (.bool true) ∧ Below W.heap.size W w' := by
  have hbeg := begun_any W
  have hn' : (n : Int) ≤ 9223372036854775807 := by unfold maxLen at hn; omega
  clear hn
  go_enter Tryz.func6, Tryz.ntmps6
  go_upto_block 0 with (first
    | (go_at_call 7; (with_reducible refine hbeg.mono ?_); rintro e w1 ⟨rfl, hb1⟩; have hshop := shop_any w1; have B1 := Lib.hid hb1; clear hbeg hb1)
    | (go_at_call 9; (with_reducible refine hshop.mono ?_); rintro e w2 ⟨cv, dv, rfl, hT, hb2⟩; have hnew := st_new hT (below_on B1.out hb2); clear hshop hT hb2)
    | (go_at_call 8; (with_reducible refine hnew.mono ?_); rintro e w3 ⟨tb, rfl, S3⟩; clear hnew B1))
  have S3 := Lib.hid S3
  go_cut [5] from 200 to 200 (fun lv w => ∃ (i : Nat) (A : List R1), i ≤ 50 ∧ A.length ≤ i ∧ lv = .int .i64 (A.length : Int) ∧ xrows A ∧ St W w tb i A)
  case first =>
    go_wp2_with fail
    go_loopg [5, 6] 51 (fun gh lv iv w => ∃ (i : Nat) (A : List R1), i ≤ 50 ∧ i ≤ n ∧ 51 ≤ i + gh ∧ A.length ≤ i ∧ iv = .int .i64 (i : Int) ∧ lv = .int .i64 (A.length : Int) ∧ xrows A ∧ St W w tb i A)
    case atStart => exact ⟨0, [], Nat.zero_le _, Nat.zero_le _, Nat.le_refl _, Nat.le_refl _, rfl, rfl, fun a ha => (by cases ha), S3.out⟩
    case round =>
      clear S3
      obtain ⟨i, A, hi50, hin, hig, hAl, rfl, rfl, hx, S⟩ := hrel
      by_cases hlt : i < n ∧ i < 50
      · obtain ⟨h1, h2⟩ := hlt
        have hd50 : (i : Int) < 50 := by omega
        have hdn : (i : Int) < (n : Int) := by omega
        obtain ⟨b, off, rfl, hbW, hc0⟩ := hP i h1
        have hcB : Hid (∀ w, St W w tb (i + 1) (A ++ [((i : Int), rowL i bx)]) → w.cell? ⟨b, off + i, none⟩ = some (.bool (F i))) := Lib.hid (fun w hS => (World.cell?_of_block (w := W) (hS.bel.block b hbW)).trans hc0)
        obtain ⟨k, hk⟩ : ∃ k, A.length = k := ⟨_, rfl⟩
        rw [hk] at hAl ⊢
        have hkk : (k : Int) ≤ 50 := by omega
        have hrow := fun y => row_any (i : Int) bx y
        have HS := Lib.hid (And.intro S (And.intro hx hk))
        clear S hx hk hc0
        have hrow := hrow wr
        cases hF : F i
        · have HF := Lib.hid hF
          rw [hF] at hcB
          clear hF
          go_wp2_with (first
            | (go_at_call 21; (with_reducible refine hrow.mono ?_); rintro e y1 ⟨rfl, hr, hb1⟩; have hins : Calls Tryz.prog 14 #[(Value.pointer (some ⟨tb, 0, none⟩)), .slice (some ⟨wr.heap.size, 0, none⟩) 4 4] y1 fun e w' => e = .returned (.tuple #[.int .i64 (i : Int), .int .i64 0]) ∧ St W w' tb (i + 1) (A ++ [((i : Int), rowL i bx)]) := st_ins HS.out.1 hb1 hr (by omega) (smallx _) (insx _); clear hrow hr hb1)
            | (go_at_call 14; (with_reducible refine hins.mono ?_); rintro e y2 ⟨rfl, S2⟩; have hnx : Calls Tryz.prog 30 #[(Value.pointer (some ⟨tb, 0, none⟩))] y2 fun e w' => e = .returned (.int .i64 ((i : Int) + 1)) ∧ w' = y2 := st_next S2; have hc1 := hcB.out y2 S2; have S2 := Lib.hid S2; clear hins)
            | (go_at_call 30; (with_reducible refine hnx.mono ?_); rintro e y3 ⟨rfl, hw⟩; subst y3; clear hnx))
          go_roundg (50 - i)
          case measure => omega
          case rel =>
            obtain ⟨S, hx, hk⟩ := HS.out
            refine ⟨i + 1, A ++ [((i : Int), rowL i bx)], by omega, by omega, by omega, by simp; omega, rfl, by simp [hk], fun a ha => ?_, S2.out⟩
            rcases List.mem_append.1 ha with ha | ha
            · exact hx a ha
            · rw [List.mem_singleton.1 ha]
        · have HF := Lib.hid hF
          rw [hF] at hcB
          clear hF
          go_wp2_with (first
            | (go_at_call 21; (with_reducible refine hrow.mono ?_); rintro e y1 ⟨rfl, hr, hb1⟩; have hins : Calls Tryz.prog 14 #[(Value.pointer (some ⟨tb, 0, none⟩)), .slice (some ⟨wr.heap.size, 0, none⟩) 4 4] y1 fun e w' => e = .returned (.tuple #[.int .i64 (i : Int), .int .i64 0]) ∧ St W w' tb (i + 1) (A ++ [((i : Int), rowL i bx)]) := st_ins HS.out.1 hb1 hr (by omega) (smallx _) (insx _); clear hrow hr hb1)
            | (go_at_call 14; (with_reducible refine hins.mono ?_); rintro e y2 ⟨rfl, S2⟩; have hnx : Calls Tryz.prog 30 #[(Value.pointer (some ⟨tb, 0, none⟩))] y2 fun e w' => e = .returned (.int .i64 ((i : Int) + 1)) ∧ w' = y2 := st_next S2; have hc1 := hcB.out y2 S2; have hdel : Calls Tryz.prog 16 #[(Value.pointer (some ⟨tb, 0, none⟩)), .int .i64 (i : Int)] y2 fun e w' => e = .returned (.bool true) ∧ St W w' tb (i + 1) (without (A ++ [((i : Int), rowL i bx)]) (i : Int)) := st_del S2 (a := ((i : Int), rowL i bx)) (by simp) (by omega); have S2 := Lib.hid S2; clear hins)
            | (go_at_call 30; (with_reducible refine hnx.mono ?_); rintro e y3 ⟨rfl, hw⟩; subst y3; clear hnx)
            | (go_at_call 16; (with_reducible refine hdel.mono ?_); rintro e y4 ⟨rfl, S4⟩; have hdn2 := st_delno (x := (i : Int)) S4 (by constructor <;> omega) (fun a ha he => by have h5 := (List.mem_filter.1 ha).2; simp at h5; exact h5 he); have S4 := Lib.hid S4; clear hdel)
            | (go_at_call 16; (with_reducible refine hdn2.mono ?_); rintro e y5 ⟨rfl, hw⟩; subst y5; clear hdn2))
          go_roundg (50 - i)
          case measure => omega
          case rel =>
            obtain ⟨S, hx, hk⟩ := HS.out
            have hl : (without (A ++ [((i : Int), rowL i bx)]) (i : Int)).length = k := by
              obtain ⟨lab, h1, _, _⟩ := S2.out
              have h6 := without_len h1.srt (a := ((i : Int), rowL i bx)) (by simp)
              rw [List.length_append, hk] at h6
              simp at h6
              omega
            refine ⟨i + 1, without (A ++ [((i : Int), rowL i bx)]) (i : Int), by omega, by omega, by omega, by omega, rfl, by rw [hl]; try simp, fun a ha => ?_, S4.out⟩
            rcases List.mem_append.1 (List.mem_filter.1 ha).1 with ha | ha
            · exact hx a ha
            · rw [List.mem_singleton.1 ha]
      · have hex : ¬ i < n ∨ (i < n ∧ ¬ i < 50) := by omega
        have HI := Lib.hid (And.intro hx S)
        clear hlt hP hx S
        rcases hex with hex | ⟨hex, hex'⟩
        all_goals
          go_wp2_with fail
          go_meet
          exact ⟨i, A, by omega, hAl, rfl, HI.out.1, HI.out.2⟩
  case rest =>
    clear S3 hP
    obtain ⟨i, A, hi50, hAl, rfl, hx, S⟩ := hcut
    have hlive := st_live S
    cases A with
    | nil =>
      have HS := Lib.hid S
      clear S
      go_wp2_with (first
        | (go_at_call 28; (with_reducible refine hlive.mono ?_); rintro e y1 ⟨p1, n1, c1, rfl, hb1, hcount⟩; have S1 := HS.out.later hb1; have hcount : Calls Tryz.prog 29 #[.agg #[.slice p1 n1 c1]] y1 fun e w2 => e = .returned (.int .i64 0) ∧ Below y1.heap.size y1 w2 := hcount; have S1 := Lib.hid S1; clear hlive hb1)
        | (go_at_call 29; (with_reducible refine hcount.mono ?_); rintro e y2 ⟨rfl, hb2⟩; have S2 := S1.out.later hb2; have hw : Calls Tryz.prog 31 #[(Value.pointer (some ⟨tb, 0, none⟩)), .string bcity] y2 fun e w' => e = .returned (.int .i64 0) ∧ Below y2.heap.size y2 w' := st_words S2 (k := 1) (by decide) (by decide) [] (by simp) words0; have S2 := Lib.hid S2; clear hcount hb2)
        | (go_at_call 31; (with_reducible refine hw.mono ?_); rintro e y3 ⟨rfl, hb3⟩; have S3 := Lib.hid (S2.out.later hb3); clear hw hb3))
      go_ret
      exact ⟨rfl, S3.out.bel⟩
    | cons a0 A =>
      have hk : ∃ k : Nat, (a0 :: A).length = k + 1 := ⟨A.length, rfl⟩
      obtain ⟨k, hk⟩ := hk
      rw [hk] at hlive hAl ⊢
      have hkk : (k : Int) ≤ 50 := by omega
      have hxx := wordsx hx
      have HS := Lib.hid S
      have HX := Lib.hid hxx
      clear S hxx hx
      go_wp2_with (first
        | (go_at_call 28; (with_reducible refine hlive.mono ?_); rintro e y1 ⟨p1, n1, c1, rfl, hb1, hcount⟩; have S1 := HS.out.later hb1; have hcount : Calls Tryz.prog 29 #[.agg #[.slice p1 n1 c1]] y1 fun e w2 => e = .returned (.int .i64 ((k + 1 : Nat) : Int)) ∧ Below y1.heap.size y1 w2 := hcount; have S1 := Lib.hid S1; clear hlive hb1)
        | (go_at_call 29; (with_reducible refine hcount.mono ?_); rintro e y2 ⟨rfl, hb2⟩; have S2 := S1.out.later hb2; have hw : Calls Tryz.prog 31 #[(Value.pointer (some ⟨tb, 0, none⟩)), .string bcity] y2 fun e w' => e = .returned (.int .i64 1) ∧ Below y2.heap.size y2 w' := st_words S2 (k := 1) (by decide) (by decide) [wd bx] (by simp) HX.out; have S2 := Lib.hid S2; clear hcount hb2)
        | (go_at_call 31; (with_reducible refine hw.mono ?_); rintro e y3 ⟨rfl, hb3⟩; have S3 := Lib.hid (S2.out.later hb3); clear hw hb3))
      go_ret
      have hmin : min ((k : Int) + 1) 1 = 1 := by omega
      refine ⟨?_, S3.out.bel⟩
      show Ending.returned (Value.bool (1 == min ((k : Int) + 1) 1)) = _
      rw [hmin]
      rfl
end Go.Proofs.YtffpmmphpdkkbaaGreat
