/- Both: the program's and the reference's tables. -/
import Derived.Test.YtmfkkpogmmoflaaGreatPB
import Derived.Test.YtmfkkpogmmoflaaGreatTA
namespace Go.Proofs.YtmfkkpogmmoflaaGreat
open Go Go.RowKit Go.Proofs

set_option maxRecDepth 100000 in
set_option maxHeartbeats 8000000 in
theorem both_any {us : List T} {v : Value} {W : World} (h : RdTs W v us) (hsm : ∀ t ∈ us, Sm t) (hl : us.length ≤ 1000) : Calls Tryz.prog 9 #[v] W fun e w' => ∃ S p n c xs, e = .returned (.tuple #[(Value.pointer (some ⟨S, 0, none⟩)), .slice p n c]) ∧ n = (kept us us.length).length ∧ LSt S W (kept us us.length) (kept us us.length) (.slice p n c) xs w' := by
  obtain ⟨pl, cl, rfl, hcl, hml⟩ := h.slice
  obtain ⟨N, hN⟩ : ∃ x, us.length = x := ⟨_, rfl⟩
  unfold maxLen at hml
  rw [hN] at h hcl hl ⊢
  have H1 := Lib.hid h
  have HU := Lib.hid (And.intro hN hsm)
  clear h hsm hN
  go_enter Tryz.func9, Tryz.ntmps9
  go_wp2_with fail
  refine (new_any _).mono ?_
  rintro e w2 ⟨rfl, hs, hb⟩
  have D0 := Lib.hid (LSt.start (St.new (Below.refl _ _) hs hb))
  clear hs hb
  obtain ⟨S, hS⟩ : ∃ S, W.heap.size = S := ⟨_, rfl⟩
  rw [hS] at D0 ⊢
  clear hS
  go_wp2_with fail
  go_loopg [5, 6] (N + 1) (fun gh rv iv w => ∃ (i : Nat) (p : Option Addr) (n cp : Nat) (xs : List Value), iv = .int .i64 (i : Int) ∧ i ≤ N ∧ N + 1 ≤ i + gh ∧ rv = .slice p n cp ∧ n = (kept us i).length ∧ LSt S W (kept us i) (kept us i) (.slice p n cp) xs w)
  case atStart => exact ⟨0, none, 0, 0, [], rfl, Nat.zero_le _, by omega, rfl, rfl, D0.out⟩
  case round =>
    obtain ⟨i, p, n, cp, xs, rfl, hi, hg, rfl, hn, hK⟩ := hrel
    have HNM := Lib.hid hn
    have HK := Lib.hid hK
    clear hn hK
    by_cases hlt : i < N
    · have hil : i < us.length := by rw [HU.out.1]; exact hlt
      obtain ⟨b, off, cv, dv, hpl, hb, g0, g1, g2, g3, hT⟩ := RdTs.tab H1.out hil
      subst hpl
      have hsucc := kept_succ us i hil
      have hsm := HU.out.2 us[i] (List.getElem_mem _)
      obtain ⟨t, ht⟩ : ∃ t, us[i] = t := ⟨_, rfl⟩
      rw [ht] at g0 g2 hT hsucc hsm
      obtain ⟨p2, k2, hdv, _, _⟩ := hT.2.slice
      obtain ⟨nd, hnd⟩ : ∃ m, t.deps.length = m := ⟨_, rfl⟩
      rw [hnd] at hdv
      subst hdv
      obtain ⟨m, hm⟩ : ∃ m, mayP (kept us i) t = m := ⟨_, rfl⟩
      have hmay : ∀ w, LSt S W (kept us (i + 1)) (kept us i) (.slice p n cp) xs w → Calls Tryz.prog 22 #[.slice p n cp, .agg #[.string t.nm, cv, .string t.key, .slice p2 nd k2]] w fun e w' => e = .returned (.int .i64 m) ∧ Below w.heap.size w w' := fun w hk => by
        rw [← hm]; exact rmay_any (hT.later hk.st.below) hk.rd (kept_inv us i).1 hsm
      have hadd : Calls Tryz.prog 21 #[(Value.pointer (some ⟨S, 0, none⟩)), .agg #[.string t.nm, cv, .string t.key, .slice p2 nd k2]] wr fun e w' => e = .returned (.int .i64 m) ∧ Sch w' S (kept us (i + 1)) ∧ Chg (fun b => b = S) wr w' := by
        rw [← hm, hsucc]; exact add_any (hT.later HK.out.st.below) HK.out.st.sch hsm
      have HMAY := Lib.hid hmay
      have HG := Lib.hid (And.intro g0 (And.intro g1 (And.intro g2 g3)))
      have HT := Lib.hid hT
      have HM := Lib.hid (And.intro hm hsucc)
      have z0 := bel_cell HK.out.st.below g0
      have z1 := bel_cell HK.out.st.below g1
      have z2 := bel_cell HK.out.st.below g2
      have z3 := bel_cell HK.out.st.below g3
      have hji : (i : Int) < (N : Int) := by omega
      clear hb g0 g1 g2 g3 hT hsucc hsm ht hm hmay hnd hil
      by_cases hm0 : m = 0
      · subst hm0
        have HF := Lib.hid (And.intro (few_of HM.out.1).1 (cols_of HM.out.1))
        have HS : Hid (kept us (i + 1) = kept us i ++ [formT t]) := Lib.hid (by rw [HM.out.2]; unfold addT; rw [if_pos HM.out.1])
        go_wp2_with (first
          | (at_builtin; refine wpList_append_run rfl (.tmp 27) (.tmp 33) 31 rfl rfl rfl hrun ?_)
          | (go_at_call 21; (with_reducible refine hadd.mono ?_); rintro e w4 ⟨rfl, hs4, hc4⟩; have K4 := Lib.hid (HK.out.add hs4 hc4); have hmay := HMAY.out _ K4.out; have y0 := bel_cell K4.out.st.below HG.out.1; have y1 := bel_cell K4.out.st.below HG.out.2.1; have y2 := bel_cell K4.out.st.below HG.out.2.2.1; have y3 := bel_cell K4.out.st.below HG.out.2.2.2; clear hadd hs4 hc4 z0 z1 z2 z3)
          | (go_at_call 22; (with_reducible refine hmay.mono ?_); rintro e w3 ⟨rfl, hb3⟩; have K3 := Lib.hid (K4.out.on hb3); have hform := rform_any (HT.out.later K3.out.st.below) HF.out.1 HF.out.2; have x0 := bel_cell K3.out.st.below HG.out.1; have x1 := bel_cell K3.out.st.below HG.out.2.1; have x2 := bel_cell K3.out.st.below HG.out.2.2.1; have x3 := bel_cell K3.out.st.below HG.out.2.2.2; clear hmay hb3 y0 y1 y2 y3)
          | (go_at_call 23; (with_reducible refine hform.mono ?_); rintro e w5 ⟨p5, k5, rfl, hr5, hb5⟩; obtain ⟨g, cap', w6, hrun, h6⟩ := (K3.out.on hb5).app (t := formT t) rfl rfl hr5 (Nat.le_trans (kept_inv us i).1.len (by decide)) Tryz.underlying31; rw [← HNM.out] at hrun h6; have H6 := Lib.hid h6; clear hform hr5 hb5 h6 x0 x1 x2 x3))
        go_roundg (N - i)
        case measure => omega
        case rel => exact ⟨i + 1, _, _, _, _, by go_num, by omega, by omega, rfl, by rw [HS.out, List.length_append, HNM.out]; rfl, by have := H6.out; rw [← HS.out] at this; exact this⟩
      · have HS : Hid (kept us (i + 1) = kept us i) := Lib.hid (by rw [HM.out.2]; unfold addT; rw [if_neg (by rw [HM.out.1]; exact hm0)])
        have hd0 : decide (m = 0) = false := decide_eq_false hm0
        have hd1 : (m == 0) = false := by rw [beq_eq_false_iff_ne]; exact hm0
        go_wp2_with (first
          | (go_at_call 21; (with_reducible refine hadd.mono ?_); rintro e w4 ⟨rfl, hs4, hc4⟩; have K4 := Lib.hid (HK.out.add hs4 hc4); have hmay := HMAY.out _ K4.out; have y0 := bel_cell K4.out.st.below HG.out.1; have y1 := bel_cell K4.out.st.below HG.out.2.1; have y2 := bel_cell K4.out.st.below HG.out.2.2.1; have y3 := bel_cell K4.out.st.below HG.out.2.2.2; clear hadd hs4 hc4 z0 z1 z2 z3)
          | (go_at_call 22; (with_reducible refine hmay.mono ?_); rintro e w3 ⟨rfl, hb3⟩; have K3 := Lib.hid (K4.out.on hb3); clear hmay hb3 y0 y1 y2 y3))
        go_roundg (N - i)
        case measure => omega
        case rel => exact ⟨i + 1, _, _, _, _, by go_num, by omega, by omega, rfl, by rw [HS.out, HNM.out], by have := K3.out; rw [HS.out] at this ⊢; exact this⟩
    · obtain rfl : i = N := by omega
      go_wp2_with fail
      refine bodyPost_ret (v := .tuple #[(Value.pointer (some ⟨S, 0, none⟩)), .slice p n cp]) (by simp [results, Tryz.results9, go_sem]) rfl ?_
      exact ⟨_, _, _, _, _, rfl, HNM.out, HK.out⟩
/-- What is kept may be. -/
theorem kept_nice (us : List T) (i : Nat) : Nice (kept us i) := Nice.kept Nice.nil
theorem begun23_any (W : World) : Calls Tryz.prog 54 #[] W fun e w' => e = .returned (.bool true) ∧ Below W.heap.size W w' := by
  go_enter Tryz.func54, Tryz.ntmps54
  go_wp2_with (go_at_call 81; (with_reducible refine (begun_any _).mono ?_); rintro e w1 ⟨rfl, hb⟩)
  go_ret
  exact ⟨rfl, hb⟩
end Go.Proofs.YtmfkkpogmmoflaaGreat
