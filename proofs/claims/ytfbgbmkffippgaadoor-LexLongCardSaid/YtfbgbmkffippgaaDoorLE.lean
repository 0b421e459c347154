/- lex: Scan. -/
import Derived.Test.YtfbgbmkffippgaaDoorLD
import Derived.Deep.AppendLies
namespace Go.Proofs.YtfbgbmkffippgaaDoor
open Go Go.RowKit
attribute [local go_sem] Oper.semAt_some
theorem below_row {n base : Nat} {A B : World} {nv : Value} {e : TypeId} {sz m : Nat} {xs : List Value} (hr : HRow A base e sz nv m xs) (hg : A.grownBy B nv.ownBlock) (hn : n ≤ base) (hs : n ≤ A.heap.size) : Below n A B :=
  ⟨hg.os, hg.tape, hg.output, hg.size, fun q hq => hg.block q (by omega) (fun e => by have := (hr.lt q e.symm).1; omega)⟩
theorem infoT : (Tryd.prog.info? 29).map (fun i => (i.zero, i.size, i.bytes)) = some (some (.agg #[.int .i64 0, .string ⟨#[]⟩, .int .i64 0]), 3, 32) := by kernel_rfl
theorem cellsK_append (a b : List Tok) : cellsK (a ++ b) = cellsK a ++ cellsK b := by simp [cellsK]
/-- append of one token. -/
theorem app_tok (y : World) (base : Nat) {v : Value} {m : Nat} {xs : List Value} (hr : HRow y base 29 3 v m xs) (hm : m + 1 ≤ 1000100) (hb : base ≤ y.heap.size) (k : Int) (s : ByteArray) (a : Int) :
    ∃ g cap w', (Builtin.append_ #[24, 24] 24 #[v, .slice (some ⟨y.heap.size, 0, none⟩) 1 1]).run Tryd.prog (y.alloc (.cells #[.int .i64 k, .string s, .int .i64 a] 29)) = .ok (.slice (some ⟨g, 0, none⟩) (m + 1) cap) w' ∧
      HRow w' base 29 3 (.slice (some ⟨g, 0, none⟩) (m + 1) cap) (m + 1) (xs ++ [.int .i64 k, .string s, .int .i64 a]) ∧ Below base y w' := by
  obtain ⟨i0, hi0, hz0, hz1, hz2⟩ := info_parts infoT
  have hh := heap_alloc_new y (.cells #[.int .i64 k, .string s, .int .i64 a] 29)
  have hr2 := hr.later (below_alloc y (.cells #[.int .i64 k, .string s, .int .i64 a] 29))
  obtain ⟨g, cap, w', h1, h2, h3, h4⟩ := run_append_has (P := Tryd.prog) (y.alloc (.cells #[.int .i64 k, .string s, .int .i64 a] 29)) base 24 24 29 i0 _ 3 32 Tryd.underlying24 hi0 hz0 hz1 hz2 rfl (by decide) hr2 ⟨y.heap.size, 0, none⟩ 1 1 [.int .i64 k, .string s, .int .i64 a] rfl
    (by exact World.news_of_block hh) (by simp [Value.oneCell']) (by decide) (by unfold maxLen; omega) (by omega) (by rw [World.size_alloc]; omega)
  exact ⟨g, cap, w', h1, h2, ((below_alloc y _).mono hb).trans (below_row hr2 h3 (Nat.le_refl _) (by rw [World.size_alloc]; omega))⟩
theorem extract_take (s : ByteArray) (k m : Nat) : s.extract k (k + m) = ⟨((s.data.toList.drop k).take m).toArray⟩ := by
  apply ByteArray.ext
  apply Array.ext'
  rw [Lib.extract_data, show k + m - k = m by omega]
theorem scanR_end {l : List UInt8} {f k : Nat} {acc : List Tok} (h : l.length ≤ k) : scanR l f k acc = (some (acc ++ [(5, ⟨#[]⟩, (k : Int))]), -1) := by
  cases f with
  | zero => rfl
  | succ f =>
    show (match l.drop k with
      | [] => (some (acc ++ [(5, (⟨#[]⟩ : ByteArray), (k : Int))]), (-1 : Int))
      | c :: r => if isBet c then scanR l f (k + 1) acc else
        if (wordN (c :: r)).2 = 0 then (none, (k : Int)) else scanR l f (k + (wordN (c :: r)).2) (acc ++ [((wordN (c :: r)).1, (⟨((c :: r).take (wordN (c :: r)).2).toArray⟩ : ByteArray), (k : Int))])) = _
    rw [List.drop_eq_nil_of_le h]
theorem scanR_at {l : List UInt8} {f k : Nat} {acc : List Tok} (h : k < l.length) : scanR l (f + 1) k acc = if isBet l[k] then scanR l f (k + 1) acc else
      if (wordN (l.drop k)).2 = 0 then (none, (k : Int)) else scanR l f (k + (wordN (l.drop k)).2) (acc ++ [((wordN (l.drop k)).1, (⟨((l.drop k).take (wordN (l.drop k)).2).toArray⟩ : ByteArray), (k : Int))]) := by
  show (match l.drop k with
      | [] => (some (acc ++ [(5, (⟨#[]⟩ : ByteArray), (k : Int))]), (-1 : Int))
      | c :: r => if isBet c then scanR l f (k + 1) acc else
        if (wordN (c :: r)).2 = 0 then (none, (k : Int)) else scanR l f (k + (wordN (c :: r)).2) (acc ++ [((wordN (c :: r)).1, (⟨((c :: r).take (wordN (c :: r)).2).toArray⟩ : ByteArray), (k : Int))])) = _
  rw [List.drop_eq_getElem_cons h]
set_option maxRecDepth 100000 in
set_option maxHeartbeats 4000000 in
theorem scan_any {W : World} (hE : Env W) (s : ByteArray) (hs : s.size ≤ 1000000) : Calls Tryd.prog 5 #[.string s] W fun e w' => ∃ tv, e = .returned (.tuple #[tv, .int .i64 (scanP s.data.toList).2]) ∧ (∀ L, (scanP s.data.toList).1 = some L → HRow w' W.heap.size 29 3 tv L.length (cellsK L)) ∧ ((scanP s.data.toList).1 = none → tv = .slice none 0 0) ∧ Below W.heap.size W w' := by
  obtain ⟨out, hout⟩ : ∃ o, scanP s.data.toList = o := ⟨_, rfl⟩
  rw [hout]
  have hout : scanR s.data.toList s.data.toList.length 0 [] = out := hout
  have HE := Lib.hid (And.intro hE hout)
  clear hE hout
  go_enter Tryd.func5, Tryd.ntmps5
  go_wp2_with fail
  go_loopg [4, 5] (s.size + 1) (fun gh tv av w => ∃ (k : Nat) (acc : List Tok) (f : Nat), av = .int .i64 (k : Int) ∧ k ≤ s.size ∧ s.size + 1 ≤ k + gh ∧ scanR s.data.toList f k acc = out ∧ s.size ≤ k + f ∧ acc.length ≤ k ∧ HRow w W.heap.size 29 3 tv acc.length (cellsK acc) ∧ Below W.heap.size W w)
  case atStart => exact ⟨0, [], s.data.toList.length, rfl, Nat.zero_le _, by omega, HE.out.2, by rw [len_data]; omega, Nat.zero_le _, HRow.nil, Below.refl _ _⟩
  case round =>
    obtain ⟨k, acc, f, rfl, hk, hg, hsc, hf, hal, hO, hB⟩ := hrel
    obtain ⟨m, hm⟩ : ∃ m, acc.length = m := ⟨_, rfl⟩
    obtain ⟨pl, cl, rfl, hc, hcm⟩ := HRow.isslice hO
    rw [hm] at hc hal hO ⊢
    have hszB := hB.size
    by_cases hlt : k < s.size
    · obtain ⟨f, rfl⟩ : ∃ f', f = f' + 1 := ⟨f - 1, by omega⟩
      have hks : k < s.size := by omega
      have hkl : k < s.data.toList.length := by rw [len_data]; exact hks
      rw [scanR_at hkl] at hsc
      have HBt := between_any s[k] wr
      by_cases hbt : isBet s[k] = true
      · rw [hbt] at HBt
        rw [if_pos (show isBet s.data.toList[k] = true from hbt)] at hsc
        have HI := Lib.hid (And.intro hsc (And.intro hO hB))
        clear hsc hO hB hbt
        go_wp2_with (go_at_call 6; (with_reducible refine HBt.mono ?_); rintro e w' ⟨rfl, hw⟩; subst w')
        go_roundg (s.size + 1 - (k + 1))
        case measure => omega
        case rel => exact ⟨k + 1, acc, f, by go_num, by omega, by omega, HI.out.1, by omega, by omega, by rw [hm]; exact HI.out.2.1, HI.out.2.2⟩
      · have hbt : isBet s[k] = false := by simpa using hbt
        rw [hbt] at HBt
        rw [if_neg (show ¬ isBet s.data.toList[k] = true by rw [show isBet s.data.toList[k] = false from hbt]; exact Bool.false_ne_true)] at hsc
        have HW := word_any (HE.out.1.later hB) (s.extract k s.size) (by rw [← len_data, Lib.extract_to_end, List.length_drop, len_data]; omega) (by rw [← len_data, Lib.extract_to_end, List.length_drop, len_data]; omega)
        rw [Lib.extract_to_end] at HW
        have hle := wordN_le (l := s.data.toList.drop k)
        rw [List.length_drop, len_data] at hle
        obtain ⟨⟨kd, u⟩, hwn⟩ : ∃ x, wordN (s.data.toList.drop k) = x := ⟨_, rfl⟩
        rw [hwn] at HW hsc hle
        have HW : Calls Tryd.prog 7 #[.string (s.extract k s.size)] wr fun e w' => e = .returned (.tuple #[.int .i64 kd, .int .i64 (u : Int)]) ∧ Below wr.heap.size wr w' := HW
        have hle : u ≤ s.size - k := hle
        by_cases hu : u = 0
        · subst hu
          have hsc : (none, (k : Int)) = out := hsc
          have HI := Lib.hid (And.intro hsc hB)
          clear hsc hO hB hbt
          go_wp2_with (first | (go_at_call 6; (with_reducible refine HBt.mono ?_); rintro e w' ⟨rfl, hw⟩; subst w') | (go_at_call 7; (with_reducible refine HW.mono ?_); rintro e w' ⟨rfl, hb⟩))
          refine bodyPost_ret (v := .tuple #[.slice none 0 0, .int .i64 (k : Int)]) (by simp [results, Tryd.results5, go_sem]) rfl ?_
          refine ⟨.slice none 0 0, by rw [← HI.out.1], fun L hL => ?_, fun _ => rfl, below_on HI.out.2 hb⟩
          rw [← HI.out.1] at hL
          cases hL
        · have hsc : scanR s.data.toList f (k + u) (acc ++ [(kd, ⟨((s.data.toList.drop k).take u).toArray⟩, (k : Int))]) = out := by
            rw [if_neg hu] at hsc
            exact hsc
          rw [← extract_take] at hsc
          have HI := Lib.hid (And.intro hsc (And.intro hO hB))
          clear hsc hO hB hbt
          have hu2 : k + u ≤ s.size := by omega
          have hu3 : ((u : Int) == 0) = false := beq_eq_false_iff_ne.2 (by omega)
          go_upto_region 9 with (first | (go_at_call 6; (with_reducible refine HBt.mono ?_); rintro e w' ⟨rfl, hw⟩; subst w') | (go_at_call 7; (with_reducible refine HW.mono ?_); rintro e w2 ⟨rfl, hb⟩))
          have hO2 := HI.out.2.1.later hb
          obtain ⟨g, cap, w3, hrun, r3, b3⟩ := app_tok w2 W.heap.size hO2 (by omega) (Nat.le_trans hszB hb.size) kd (s.extract k (k + u)) (k : Int)
          have HK := Lib.hid (And.intro r3 (below_on HI.out.2.2 hb |>.trans b3))
          clear r3 b3 hO2 hb
          go_wp2_with (at_builtin; refine wpList_append_run rfl (.tmp 28) (.tmp 38) 24 rfl rfl rfl hrun ?_)
          go_roundg (s.size + 1 - (k + u))
          case measure => omega
          case rel => exact ⟨k + u, acc ++ [(kd, s.extract k (k + u), (k : Int))], f, by go_num, by omega, by omega, HI.out.1, by omega, by rw [List.length_append, hm]; simp; omega, by rw [List.length_append, hm, cellsK_append]; exact HK.out.1, HK.out.2⟩
    · obtain rfl : k = s.size := by omega
      rw [scanR_end (by rw [len_data]; omega)] at hsc
      obtain ⟨g, cap, w3, hrun, r3, b3⟩ := app_tok wr W.heap.size hO (by omega) hszB 5 ⟨#[]⟩ (s.size : Int)
      have HI := Lib.hid (And.intro hsc (And.intro r3 (hB.trans b3)))
      clear hsc hO hB r3 b3
      go_wp2_with (at_builtin; refine wpList_append_run rfl (.tmp 43) (.tmp 46) 24 rfl rfl rfl hrun ?_)
      refine bodyPost_ret (v := .tuple #[.slice (some ⟨g, 0, none⟩) (m + 1) cap, .int .i64 (-1)]) (by simp [results, Tryd.results5, go_sem]) rfl ?_
      refine ⟨.slice (some ⟨g, 0, none⟩) (m + 1) cap, by rw [← HI.out.1], fun L hL => ?_, fun h => ?_, HI.out.2.2⟩
      · rw [← HI.out.1] at hL
        have hL : acc ++ [(5, ⟨#[]⟩, (s.size : Int))] = L := Option.some.inj hL
        rw [← hL, List.length_append, hm, cellsK_append]
        exact HI.out.2.1
      · rw [← HI.out.1] at h
        cases h
end Go.Proofs.YtfbgbmkffippgaaDoor
