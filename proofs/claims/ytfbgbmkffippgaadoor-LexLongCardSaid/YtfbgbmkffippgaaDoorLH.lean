/- LexLong: its law. -/
import Derived.Test.YtfbgbmkffippgaaDoorLG
import Derived.Laws.IdiomStrings
namespace Go.Proofs.YtfbgbmkffippgaaDoor
open Go Go.RowKit
attribute [local go_sem] Oper.semAt_some
theorem cat_data (a b : ByteArray) : (a ++ b).data.toList = a.data.toList ++ b.data.toList := by
  rw [ByteArray.data_append, Array.toList_append]
theorem let_conv (w : World) (x : Int) (h1 : 97 ≤ x) (h2 : x ≤ 122) : ∃ u : UInt8, isLet u = true ∧ (convert 23 9 (.slice (some ⟨w.heap.size, 0, none⟩) 1 1)).run Tryd.prog (w.alloc (.cells #[.int .u8 x] 5)) = .ok (.string ⟨#[u]⟩) (w.alloc (.cells #[.int .u8 x] 5)) := by
  have hu : ((UInt8.ofNat x.toNat).toNat : Int) = x := by
    rw [UInt8.toNat_ofNat', Nat.mod_eq_of_lt (by omega)]
    omega
  refine ⟨UInt8.ofNat x.toNat, isLet_iff.2 (.inl (by omega)), ?_⟩
  refine run_convert_bytes_back (P := Tryd.prog) _ 23 9 5 ⟨w.heap.size, 0, none⟩ 1 [UInt8.ofNat x.toNat] Tryd.underlying23 Tryd.underlying5 Tryd.underlying9 (fun j hj => ?_)
  have : j = 0 := by simpa using hj
  subst this
  show (w.alloc (.cells #[.int .u8 x] 5)).cell? ⟨w.heap.size, 0, none⟩ = some (.int .u8 ((UInt8.ofNat x.toNat).toNat : Int))
  rw [hu]
  exact nd_cell (heap_alloc_new w _) 0
theorem scan_2nd {w : World} (hE : Env w) (s : ByteArray) (hs : s.size ≤ 1000) {r : Int} (hr : (scanP s.data.toList).2 = r) : Calls Tryd.prog 5 #[.string s] w fun e w' => ∃ tv, e = .returned (.tuple #[tv, .int .i64 r]) ∧ Below w.heap.size w w' := by
  refine (scan_any hE s (by omega)).mono ?_
  rintro e w' ⟨tv, rfl, _, _, hb⟩
  exact ⟨tv, by rw [hr], hb⟩
set_option maxRecDepth 100000 in
set_option maxHeartbeats 4000000 in
theorem llong_core {W : World} (hE : Env W) (n : Nat) (hn : 1 ≤ n ∧ n ≤ 30) (c : Int) : Calls Tryd.prog 3 #[.int .i64 (n : Int), .int .u8 c] W fun e w' => e = .returned (.bool true) ∧ Below W.heap.size W w' := by
  have hbg := begun_any hE
  have HE := Lib.hid hE
  clear hE
  go_enter Tryd.func3, Tryd.ntmps3
  go_upto_region 8 with (go_at_call 4; (with_reducible refine hbg.mono ?_); rintro e w1 ⟨rfl, hb⟩; have H1 := Lib.hid hb; clear hbg hb)
  go_loopg [6, 7] (n + 1) (fun gh sv iv w => ∃ (i : Nat) (t : ByteArray), iv = .int .i64 (i : Int) ∧ i ≤ n ∧ n + 1 ≤ i + gh ∧ sv = .string t ∧ t.size = i ∧ (∀ b ∈ t.data.toList, isLet b = true) ∧ Below W.heap.size W w)
  case atStart => exact ⟨0, ⟨#[]⟩, rfl, Nat.zero_le _, by omega, rfl, rfl, fun b hb => by simp at hb, H1.out⟩
  case round =>
    obtain ⟨i, t, rfl, hi, hg, rfl, hts, htl, hB⟩ := hrel
    have htz : t.size ≤ 30 := by omega
    have HI := Lib.hid (And.intro hts (And.intro htl hB))
    clear hts htl hB
    by_cases hlt : i < n
    · obtain ⟨u, hu, hconv⟩ := let_conv wr (97 + (c + i) % 256 % 26) (by omega) (by omega)
      have HU := Lib.hid hu
      clear hu
      go_wp2_with fail
      go_roundg (n + 1 - (i + 1))
      case measure => omega
      case rel => exact ⟨i + 1, t ++ ⟨#[u]⟩, by go_num, by omega, by omega, rfl, by rw [← len_data, cat_data, List.length_append, len_data, HI.out.1]; rfl, fun b hb => by
        rw [cat_data, List.mem_append] at hb
        rcases hb with hb | hb
        · exact HI.out.2.1 b hb
        · have hb : b = u := by simpa using hb
          rw [hb]
          exact HU.out, below_on HI.out.2.2 (below_alloc wr _)⟩
    · obtain rfl : i = n := by omega
      clear hlt hg hi
      have hl : t.data.toList.length = i := by rw [len_data]; exact HI.out.1
      have e1 : (⟨#[32]⟩ ++ t : ByteArray).data.toList = 32 :: t.data.toList := cat_data _ _
      have e2 : ((⟨#[120, 32, 39]⟩ ++ t) ++ ⟨#[39]⟩ : ByteArray).data.toList = 120 :: 32 :: 39 :: (t.data.toList ++ [39]) := by
        rw [cat_data, cat_data]
        rfl
      have s1 := scan_1 HI.out.2.1 (by omega)
      have s2 := scan_2 HI.out.2.1
      rw [← e1, hl] at s1
      rw [← e2, hl] at s2
      have z1 : (⟨#[32]⟩ ++ t : ByteArray).size ≤ 1000 := by rw [← len_data, e1, List.length_cons, hl]; omega
      have z2 : ((⟨#[120, 32, 39]⟩ ++ t) ++ ⟨#[39]⟩ : ByteArray).size ≤ 1000 := by rw [← len_data, e2]; simp only [List.length_cons, List.length_append, hl, List.length_nil]; omega
      have hs1 := scan_2nd (HE.out.later HI.out.2.2) _ z1 s1
      have hs2 := fun (w : World) (hb : Below W.heap.size W w) => scan_2nd (HE.out.later hb) _ z2 s2
      clear s1 s2 z1 z2 e1 e2 hl
      have HB := Lib.hid HI.out.2.2
      clear HI
      by_cases h12 : i ≤ 12
      · simp only [if_pos h12] at hs1 hs2
        have h12i : (i : Int) ≤ 12 := by omega
        go_upto_region 12 with (go_at_call 5; (with_reducible refine hs1.mono ?_); rintro e w2 ⟨tv, rfl, hb⟩; have H2 := Lib.hid (below_on HB.out hb); have hs2 := hs2 w2 H2.out; clear hs1 hb)
        go_upto_region 13 with (go_at_call 5; (with_reducible refine hs2.mono ?_); rintro e w3 ⟨tv2, rfl, hb⟩; have H3 := Lib.hid (below_on H2.out hb); clear hs2 hb)
        go_wp2_with fail
        go_ret
        exact ⟨ret_bool (by simp), H3.out⟩
      · simp only [if_neg h12] at hs1 hs2
        have h12i : ¬ (i : Int) ≤ 12 := by omega
        go_upto_region 12 with (go_at_call 5; (with_reducible refine hs1.mono ?_); rintro e w2 ⟨tv, rfl, hb⟩; have H2 := Lib.hid (below_on HB.out hb); have hs2 := hs2 w2 H2.out; clear hs1 hb)
        go_upto_region 13 with (go_at_call 5; (with_reducible refine hs2.mono ?_); rintro e w3 ⟨tv2, rfl, hb⟩; have H3 := Lib.hid (below_on H2.out hb); clear hs2 hb)
        go_wp2_with fail
        go_ret
        exact ⟨ret_bool (by simp; omega), H3.out⟩
theorem lexLong_walk {W : World} (hE : Env W) (n : Int) (c : Int) : Calls Tryd.prog 3 #[.int .i64 n, .int .u8 c] W fun e w' => e = .returned (.bool true) ∧ Below W.heap.size W w' := by
  by_cases h : n < 1 ∨ 30 < n
  · have hbg := begun_any hE
    clear hE
    rcases h with h | h
    · go_enter Tryd.func3, Tryd.ntmps3
      go_wp2_with (go_at_call 4; (with_reducible refine hbg.mono ?_); rintro e w1 ⟨rfl, hb⟩)
      go_ret
      exact ⟨rfl, hb⟩
    · have h2 : ¬ n < 1 := by omega
      go_enter Tryd.func3, Tryd.ntmps3
      go_wp2_with (go_at_call 4; (with_reducible refine hbg.mono ?_); rintro e w1 ⟨rfl, hb⟩)
      go_ret
      exact ⟨rfl, hb⟩
  · obtain ⟨N, rfl⟩ := Int.eq_ofNat_of_zero_le (by omega : 0 ≤ n)
    exact llong_core hE N (by omega) c
end Go.Proofs.YtfbgbmkffippgaaDoor
