/- lex: texts, numbers, words. -/
import Derived.Test.YtfbgbmkffippgaaDoorLC
import Derived.Lib.ParseIntBTie
namespace Go.Proofs.YtfbgbmkffippgaaDoor
open Go Go.RowKit
theorem indexByte_notQ : ∀ (l : List UInt8), Lib.indexByte l 39 = if l.length ≤ (l.takeWhile notQ).length then -1 else ((l.takeWhile notQ).length : Int)
  | [] => rfl
  | b :: r => by
    have ih := indexByte_notQ r
    by_cases hb : b = 39
    · subst hb
      rfl
    · have hq : notQ b = true := by
        unfold notQ
        exact decide_eq_true (fun e => hb (UInt8.toNat_inj.1 e))
      have hbe : (b == 39) = false := beq_eq_false_iff_ne.2 hb
      rw [List.takeWhile_cons_of_pos hq, List.length_cons, List.length_cons]
      have e : Lib.indexByte (b :: r) 39 = if (Lib.indexByte r 39 == -1) = true then -1 else Lib.indexByte r 39 + 1 := by
        show (if (b == 39) = true then (0 : Int) else if (Lib.indexByte r 39 == -1) = true then -1 else Lib.indexByte r 39 + 1) = _
        rw [hbe]
        rfl
      rw [e]
      by_cases h : r.length ≤ (r.takeWhile notQ).length
      · rw [if_pos h] at ih
        rw [ih, if_pos (show r.length + 1 ≤ (r.takeWhile notQ).length + 1 by omega)]
        rfl
      · rw [if_neg h] at ih
        rw [ih, if_neg (show ¬ r.length + 1 ≤ (r.takeWhile notQ).length + 1 by omega), if_neg (by rw [beq_iff_eq]; omega)]
        omega
set_option maxHeartbeats 1000000 in
theorem text_any (s : ByteArray) (w : World) (h1 : 1 ≤ s.size) (hs : s.size ≤ 1000000) : Calls Tryd.prog 12 #[.string s] w fun e w' => e = .returned (.int .i64 (textN s.data.toList : Int)) ∧ Below w.heap.size w w' := by
  obtain ⟨t, ht⟩ : ∃ t, ((s.data.toList.drop 1).takeWhile notQ).length = t := ⟨_, rfl⟩
  have hx : Calls Tryd.prog 15 #[.string (s.extract 1 s.size), .int .u8 39] w fun e w' => e = .returned (.int .i64 (if s.data.toList.length ≤ 1 + t then -1 else (t : Int))) ∧ w' = w := by
    have h := Tryd.strings_IndexByte (s.extract 1 s.size) 39 w
    rw [Lib.extract_to_end, show ((39 : Int).toNat.toUInt8) = (39 : UInt8) from rfl, indexByte_notQ, ht, List.length_drop] at h
    have hl : 1 ≤ s.data.toList.length := by rw [len_data]; exact h1
    by_cases hq : s.data.toList.length ≤ 1 + t
    · rw [if_pos (by omega)] at h
      rw [if_pos hq]
      exact h
    · rw [if_neg (by omega)] at h
      rw [if_neg hq]
      exact h
  have hr : runF notQ s.data.toList 1 = 1 + t := by unfold runF; rw [ht]
  have hN : textN s.data.toList = if s.data.toList.length ≤ 1 + t then 0 else if mayT ((s.data.toList.drop 1).take t) then t + 2 else 0 := by
    unfold textN
    rw [hr, show 1 + t - 1 = t by omega, show 1 + t + 1 = t + 2 by omega]
  rw [len_data] at hx hN
  have HN := Lib.hid hN
  clear hN hr ht
  by_cases hq : s.size ≤ 1 + t
  · rw [if_pos hq] at hx
    go_enter Tryd.func12, Tryd.ntmps12
    go_wp2_with (go_at_call 15; (with_reducible refine hx.mono ?_); rintro e w' ⟨rfl, hw⟩; subst w')
    go_ret
    exact ⟨ret_i64 (by rw [HN.out, if_pos hq]; rfl), Below.refl _ _⟩
  · rw [if_neg hq] at hx
    have hm : Calls Tryd.prog 16 #[.agg #[.int .i64 2, .int .i64 0, .string (s.extract 1 (1 + t))]] w fun e w' => e = .returned (.bool (mayT ((s.data.toList.drop 1).take t))) ∧ Below w.heap.size w w' := by
      have h := may_any 2 0 (s.extract 1 (1 + t)) w (by unfold maxLen; rw [← len_data, Lib.extract_data, List.length_take, List.length_drop, len_data]; omega)
      rw [Lib.extract_data, show 1 + t - 1 = t by omega] at h
      exact h
    by_cases hy : mayT ((s.data.toList.drop 1).take t) = true
    · rw [hy] at hm
      have HN2 := Lib.hid (show textN s.data.toList = t + 2 by rw [HN.out, if_neg hq, if_pos hy])
      clear hy
      go_enter Tryd.func12, Tryd.ntmps12
      go_wp2_with (first | (go_at_call 15; (with_reducible refine hx.mono ?_); rintro e w' ⟨rfl, hw⟩; subst w') | (go_at_call 16; (with_reducible refine hm.mono ?_); rintro e w' ⟨rfl, hb⟩))
      go_ret
      exact ⟨ret_i64 (by rw [HN2.out]; omega), hb⟩
    · have hy : mayT ((s.data.toList.drop 1).take t) = false := by simpa using hy
      rw [hy] at hm
      have HN2 := Lib.hid (show textN s.data.toList = 0 by rw [HN.out, if_neg hq, hy]; rfl)
      clear hy
      go_enter Tryd.func12, Tryd.ntmps12
      go_wp2_with (first | (go_at_call 15; (with_reducible refine hx.mono ?_); rintro e w' ⟨rfl, hw⟩; subst w') | (go_at_call 16; (with_reducible refine hm.mono ?_); rintro e w' ⟨rfl, hb⟩))
      go_ret
      exact ⟨ret_i64 (by rw [HN2.out]; rfl), hb⟩
/-- The library's tables and errors that number reads. -/
structure Env (w : World) : Prop where
  tab : TabAt w
  syn : ∃ ev, w.cell? ⟨1, 0, none⟩ = some ev ∧ (ev = .nilIface ∨ ∃ te pe, ev = .iface te pe)
  rng : ∃ ev, w.cell? ⟨2, 0, none⟩ = some ev ∧ (ev = .nilIface ∨ ∃ te pe, ev = .iface te pe)
theorem Env.later {w w' : World} (h : Env w) (hb : Below w.heap.size w w') : Env w' := by
  obtain ⟨e1, a1, a2⟩ := h.syn
  obtain ⟨e2, b1, b2⟩ := h.rng
  exact ⟨tab_on h.tab hb, ⟨e1, (hb.cell (p := ⟨1, 0, none⟩) (Lib.lt_of_cell a1)).trans a1, a2⟩, ⟨e2, (hb.cell (p := ⟨2, 0, none⟩) (Lib.lt_of_cell b1)).trans b1, b2⟩⟩
/-- What strconv.ParseInt tells, in short. -/
theorem parse_any {w : World} (hE : Env w) (s : ByteArray) (hs : s.size ≤ 1000000) : Calls Tryd.prog 17 #[.string s, .int .i64 10, .int .i64 64] w fun e w' => Below w.heap.size w w' ∧
    ((∃ v, Lib.parseIntB 64 s.data.toList = .ok v ∧ e = .returned (.tuple #[.int .i64 v, .nilIface])) ∨ (writ s.data.toList = false ∧ ∃ v p, e = .returned (.tuple #[.int .i64 v, .iface 51 p]))) := by
  rcases h : Lib.parseIntB 64 s.data.toList with v | _ | _
  · refine (Tryd.strconv_ParseInt_10_at64_ok s (by omega) v h w).mono ?_
    rintro e w' ⟨rfl, rfl | ⟨t, rfl⟩⟩
    · exact ⟨Below.refl _ _, .inl ⟨v, rfl, rfl⟩⟩
    · exact ⟨Lib.bytesWorld_below _ _ _, .inl ⟨v, rfl, rfl⟩⟩
  · obtain ⟨e1, a1, a2⟩ := hE.syn
    have hc : Calls Tryd.prog 17 #[.string s, .int .i64 10, .int .i64 64] w fun e w' => ∃ N, e = .returned (.tuple #[.int .i64 (0), .iface 51 (.pointer (some ⟨N, 0, none⟩))]) ∧ w.heap.size ≤ N ∧ w'.heap[N]? = some (.cells #[.string ⟨#[80, 97, 114, 115, 101, 73, 110, 116]⟩, .string s, e1] 57 (0, 0)) ∧ Below w.heap.size w w' := Any.strconv_ParseInt_10_at64_syntax Tryd.laysC174 s (by omega) h e1 w a1 a2
    refine hc.mono ?_
    rintro e w' ⟨N, rfl, _, _, hb⟩
    exact ⟨hb, .inr ⟨by unfold writ; rw [h], _, _, rfl⟩⟩
  · obtain ⟨e1, a1, a2⟩ := hE.rng
    refine (Tryd.strconv_ParseInt_10_at64_range s (by omega) h e1 w a1 a2).mono ?_
    rintro e w' ⟨N, rfl, _, _, hb⟩
    exact ⟨hb, .inr ⟨by unfold writ; rw [h], _, _, rfl⟩⟩
set_option maxHeartbeats 1000000 in
theorem written_any {w : World} (hE : Env w) (s : ByteArray) (hs : s.size ≤ 1000000) : Calls Tryd.prog 14 #[.string s] w fun e w' => e = .returned (.bool (writ s.data.toList)) ∧ Below w.heap.size w w' := by
  have hp := parse_any hE s hs
  have HE := Lib.hid hE
  clear hE
  go_enter Tryd.func14, Tryd.ntmps14
  go_upto_region 2 with (go_at_call 17; (with_reducible refine hp.mono ?_); rintro e w1 ⟨hb, ⟨v, hv, rfl⟩ | ⟨hw, v, p, rfl⟩⟩)
  · have hbd := Lib.parseIntB_bounds hv
    have ht : Calls Tryd.prog 18 #[.agg #[.int .i64 1, .int .i64 v, .string ⟨#[]⟩]] w1 fun e w' => e = .returned (.string ⟨(Lib.itoa v).toArray⟩) ∧ Below w1.heap.size w1 w' :=
      valText_any 1 v ⟨#[]⟩ w1 (by omega) (by omega) (by decide) (HE.out.later hb).tab rfl
    have hq : writ s.data.toList = decide (Lib.itoa v = s.data.toList) := by unfold writ; rw [hv]
    have HQ := Lib.hid (And.intro hq hb)
    clear hq hb hv hbd hp
    go_wp2_with (go_at_call 18; (with_reducible refine ht.mono ?_); rintro e w2 ⟨rfl, hb2⟩)
    go_ret
    exact ⟨ret_bool (by rw [HQ.out.1, Lib.toList_data, Bool.eq_iff_iff, beq_iff_eq, decide_eq_true_eq]), below_on HQ.out.2 hb2⟩
  · have HQ := Lib.hid (And.intro hw hb)
    clear hw hb hp
    go_wp2_with fail
    go_ret
    exact ⟨ret_bool (by rw [HQ.out.1]), HQ.out.2⟩
theorem at_data (s : ByteArray) (k : Nat) (h : k < s.size) : s.data.toList[k]? = some s[k] := by
  have hl : k < s.data.toList.length := by rw [len_data]; exact h
  rw [List.getElem?_eq_getElem hl]
  rfl
theorem numN_at {s : ByteArray} {k : Nat} (h : runF isDig s.data.toList 1 = k) : numN s.data.toList = if letAt s.data.toList k || !writ (s.extract 0 k).data.toList then 0 else k := by
  unfold numN
  rw [h, Lib.extract_data, List.drop_zero, Nat.sub_zero]
set_option maxHeartbeats 1000000 in
theorem number_any {w : World} (hE : Env w) (s : ByteArray) (h1 : 1 ≤ s.size) (hs : s.size ≤ 1000000) : Calls Tryd.prog 11 #[.string s] w fun e w' => e = .returned (.int .i64 (numN s.data.toList : Int)) ∧ Below w.heap.size w w' := by
  have HE := Lib.hid hE
  clear hE
  go_enter Tryd.func11, Tryd.ntmps11
  go_wp2
  go_loop [3] (fun i => ∃ k : Nat, 1 ≤ k ∧ k ≤ s.size ∧ i = .int .i64 k ∧ runF isDig s.data.toList 1 = runF isDig s.data.toList k) (fun i => s.size - (intOf i).toNat)
  case atStart => exact ⟨1, Nat.le_refl _, h1, rfl, rfl⟩
  case round =>
    obtain ⟨k, hk1, hk, rfl, hall⟩ := hrel
    have H := Lib.hid hall
    clear hall
    by_cases hlt : k < s.size
    · have hl : k < s.data.toList.length := by rw [len_data]; exact hlt
      have HD := digit_any s[k] w
      by_cases hD : isDig s[k] = true
      · rw [hD] at HD
        have HX := Lib.hid (H.out.trans (runF_yes (p := isDig) hl (show isDig s[k] = true from hD)).symm)
        clear hD
        go_wp2_with (go_at_call 10; (with_reducible refine HD.mono ?_); rintro e w' ⟨rfl, hw⟩; subst w')
        exact ⟨⟨k + 1, by omega, by omega, by go_num, HX.out⟩, by simp [intOf]; omega⟩
      · have hD : isDig s[k] = false := by simpa using hD
        rw [hD] at HD
        have hN := numN_at (H.out.trans (runF_no (p := isDig) hl (show isDig s[k] = false from hD)))
        have HL := letter_any s[k] w
        have hla : letAt s.data.toList k = isLet s[k] := by unfold letAt; rw [at_data s k hlt]
        rw [hla] at hN
        clear hD hla
        by_cases hL : isLet s[k] = true
        · rw [hL] at HL hN
          have HN := Lib.hid hN
          clear hL hN
          go_wp2_with (first | (go_at_call 8; (with_reducible refine HL.mono ?_); rintro e w' ⟨rfl, hw⟩; subst w') | (go_at_call 10; (with_reducible refine HD.mono ?_); rintro e w' ⟨rfl, hw⟩; subst w'))
          go_ret
          exact ⟨ret_i64 (by rw [HN.out]; rfl), Below.refl _ _⟩
        · have hL : isLet s[k] = false := by simpa using hL
          rw [hL, Bool.false_or] at hN
          rw [hL] at HL
          have HW := written_any HE.out (s.extract 0 k) (by rw [← len_data, Lib.extract_data, List.length_take, List.length_drop, len_data]; omega)
          clear hL
          cases hw : writ (s.extract 0 k).data.toList with
          | true =>
            rw [hw] at HW hN
            have HN := Lib.hid hN
            clear hN hw
            go_wp2_with (first | (go_at_call 8; (with_reducible refine HL.mono ?_); rintro e w' ⟨rfl, hw⟩; subst w') | (go_at_call 10; (with_reducible refine HD.mono ?_); rintro e w' ⟨rfl, hw⟩; subst w') | (go_at_call 14; (with_reducible refine HW.mono ?_); rintro e w' ⟨rfl, hb⟩))
            go_ret
            exact ⟨ret_i64 (by rw [HN.out]; rfl), hb⟩
          | false =>
            rw [hw] at HW hN
            have HN := Lib.hid hN
            clear hN hw
            go_wp2_with (first | (go_at_call 8; (with_reducible refine HL.mono ?_); rintro e w' ⟨rfl, hw⟩; subst w') | (go_at_call 10; (with_reducible refine HD.mono ?_); rintro e w' ⟨rfl, hw⟩; subst w') | (go_at_call 14; (with_reducible refine HW.mono ?_); rintro e w' ⟨rfl, hb⟩))
            go_ret
            exact ⟨ret_i64 (by rw [HN.out]; rfl), hb⟩
    · obtain rfl : k = s.size := by omega
      have hN := numN_at (H.out.trans (runF_end (p := isDig) (by rw [len_data]; exact Nat.le_refl _)))
      have hla : letAt s.data.toList s.size = false := by
        unfold letAt
        rw [List.getElem?_eq_none (by rw [len_data]; exact Nat.le_refl _)]
      rw [hla, Bool.false_or, Lib.extract_to_end, List.drop_zero] at hN
      have HW := written_any HE.out s hs
      clear hla
      cases hw : writ s.data.toList with
      | true =>
        rw [hw] at HW hN
        have HN := Lib.hid hN
        clear hN hw
        go_wp2_with (go_at_call 14; (with_reducible refine HW.mono ?_); rintro e w' ⟨rfl, hb⟩)
        go_ret
        exact ⟨ret_i64 (by rw [HN.out]; rfl), hb⟩
      | false =>
        rw [hw] at HW hN
        have HN := Lib.hid hN
        clear hN hw
        go_wp2_with (go_at_call 14; (with_reducible refine HW.mono ?_); rintro e w' ⟨rfl, hb⟩)
        go_ret
        exact ⟨ret_i64 (by rw [HN.out]; rfl), hb⟩
theorem ret_2 {a b c d : Int} (h1 : a = c) (h2 : b = d) : Ending.returned (.tuple #[.int .i64 a, .int .i64 b]) = .returned (.tuple #[.int .i64 c, .int .i64 d]) := by rw [h1, h2]
theorem wordN_eq {s : ByteArray} {c : UInt8} {r : List UInt8} (h : s.data.toList = c :: r) : wordN s.data.toList = if isLet c then (1, nameN s.data.toList) else if numAt c r then (2, numN s.data.toList) else if decide (c.toNat = 39) then (3, textN s.data.toList) else (4, signN s.data.toList) := by
  rw [h]
  rfl
set_option maxHeartbeats 2000000 in
theorem word_any {w : World} (hE : Env w) (s : ByteArray) (h0 : 0 < s.size) (hs : s.size ≤ 1000000) : Calls Tryd.prog 7 #[.string s] w fun e w' => e = .returned (.tuple #[.int .i64 (wordN s.data.toList).1, .int .i64 ((wordN s.data.toList).2 : Int)]) ∧ Below w.heap.size w w' := by
  obtain ⟨r, hr⟩ := head_data s h0
  have hW := wordN_eq hr
  have HL := letter_any s[0] w
  by_cases a1 : isLet s[0] = true
  · rw [a1] at HL
    rw [a1, if_pos rfl] at hW
    have HW := Lib.hid hW
    have HN := name_any s w h0 hs
    clear hW a1 hr hE
    go_enter Tryd.func7, Tryd.ntmps7
    go_wp2_with (first | (go_at_call 8; (with_reducible refine HL.mono ?_); rintro e w' ⟨rfl, hw⟩; subst w') | (go_at_call 9; (with_reducible refine HN.mono ?_); rintro e w' ⟨rfl, hw⟩; subst w'))
    refine bodyPost_ret (v := .tuple #[.int .i64 1, .int .i64 (nameN s.data.toList : Int)]) (by simp [results, Tryd.results7, go_sem]) rfl ?_
    exact ⟨ret_2 (by rw [HW.out]) (by rw [HW.out]), Below.refl _ _⟩
  have a1 : isLet s[0] = false := by simpa using a1
  rw [a1] at HL
  rw [a1, if_neg Bool.false_ne_true] at hW
  have HD := digit_any s[0] w
  have HNum := number_any hE s h0 hs
  have HT := text_any s w h0 hs
  have HS := sign_any s w h0 hs
  clear hE a1
  by_cases a2 : isDig s[0] = true
  · rw [a2] at HD
    rw [show numAt s[0] r = true by unfold numAt; rw [a2]; rfl, if_pos rfl] at hW
    have HW := Lib.hid hW
    clear hW a2 hr
    go_enter Tryd.func7, Tryd.ntmps7
    go_wp2_with (first | (go_at_call 8; (with_reducible refine HL.mono ?_); rintro e w' ⟨rfl, hw⟩; subst w') | (go_at_call 10; (with_reducible refine HD.mono ?_); rintro e w' ⟨rfl, hw⟩; subst w') | (go_at_call 11; (with_reducible refine HNum.mono ?_); rintro e w' ⟨rfl, hb⟩))
    refine bodyPost_ret (v := .tuple #[.int .i64 2, .int .i64 (numN s.data.toList : Int)]) (by simp [results, Tryd.results7, go_sem]) rfl ?_
    exact ⟨ret_2 (by rw [HW.out]) (by rw [HW.out]), hb⟩
  have a2 : isDig s[0] = false := by simpa using a2
  rw [a2] at HD
  by_cases a3 : s[0].toNat = 45
  · have b3 : ((s[0].toNat : Int) == 45) = true := by rw [beq_iff_eq]; omega
    by_cases a4 : 1 < s.size
    · have HD1 := digit_any s[1] w
      have hr1 : ∃ r', r = s[1] :: r' := by
        have := at_data s 1 a4
        rw [hr] at this
        cases r with
        | nil => cases this
        | cons d r' =>
          have e : d = s[1] := Option.some.inj this
          exact ⟨r', by rw [e]⟩
      obtain ⟨r', rfl⟩ := hr1
      by_cases a5 : isDig s[1] = true
      · rw [a5] at HD1
        rw [show numAt s[0] (s[1] :: r') = true by unfold numAt; rw [a2, decide_eq_true a3]; exact a5, if_pos rfl] at hW
        have HW := Lib.hid hW
        clear hW a2 a3 a5 hr
        go_enter Tryd.func7, Tryd.ntmps7
        go_wp2_with (first | (go_at_call 8; (with_reducible refine HL.mono ?_); rintro e w' ⟨rfl, hw⟩; subst w') | (go_at_call 10; first | ((with_reducible refine HD.mono ?_); rintro e w' ⟨rfl, hw⟩; subst w') | ((with_reducible refine HD1.mono ?_); rintro e w' ⟨rfl, hw⟩; subst w')) | (go_at_call 11; (with_reducible refine HNum.mono ?_); rintro e w' ⟨rfl, hb⟩))
        refine bodyPost_ret (v := .tuple #[.int .i64 2, .int .i64 (numN s.data.toList : Int)]) (by simp [results, Tryd.results7, go_sem]) rfl ?_
        exact ⟨ret_2 (by rw [HW.out]) (by rw [HW.out]), hb⟩
      · have a5 : isDig s[1] = false := by simpa using a5
        rw [a5] at HD1
        rw [show numAt s[0] (s[1] :: r') = false by unfold numAt; rw [a2, decide_eq_true a3]; exact a5, if_neg Bool.false_ne_true, decide_eq_false (show ¬ s[0].toNat = 39 by omega), if_neg Bool.false_ne_true] at hW
        have HW := Lib.hid hW
        have b6 : ((s[0].toNat : Int) == 39) = false := beq_eq_false_iff_ne.2 (by omega)
        clear hW a2 a3 a5 hr
        go_enter Tryd.func7, Tryd.ntmps7
        go_wp2_with (first | (go_at_call 8; (with_reducible refine HL.mono ?_); rintro e w' ⟨rfl, hw⟩; subst w') | (go_at_call 10; first | ((with_reducible refine HD.mono ?_); rintro e w' ⟨rfl, hw⟩; subst w') | ((with_reducible refine HD1.mono ?_); rintro e w' ⟨rfl, hw⟩; subst w')) | (go_at_call 13; (with_reducible refine HS.mono ?_); rintro e w' ⟨rfl, hw⟩; subst w'))
        refine bodyPost_ret (v := .tuple #[.int .i64 4, .int .i64 (signN s.data.toList : Int)]) (by simp [results, Tryd.results7, go_sem]) rfl ?_
        exact ⟨ret_2 (by rw [HW.out]) (by rw [HW.out]), Below.refl _ _⟩
    · have hr1 : r = [] := by
        have : s.data.toList.length = r.length + 1 := by rw [hr, List.length_cons]
        rw [len_data] at this
        exact List.eq_nil_of_length_eq_zero (by omega)
      subst hr1
      rw [show numAt s[0] [] = false by unfold numAt; rw [a2, decide_eq_true a3]; rfl, if_neg Bool.false_ne_true, decide_eq_false (show ¬ s[0].toNat = 39 by omega), if_neg Bool.false_ne_true] at hW
      have HW := Lib.hid hW
      have b6 : ((s[0].toNat : Int) == 39) = false := beq_eq_false_iff_ne.2 (by omega)
      have b7 : ¬ (1 : Int) < (s.size : Int) := by omega
      clear hW a2 a3 hr
      go_enter Tryd.func7, Tryd.ntmps7
      go_wp2_with (first | (go_at_call 8; (with_reducible refine HL.mono ?_); rintro e w' ⟨rfl, hw⟩; subst w') | (go_at_call 10; (with_reducible refine HD.mono ?_); rintro e w' ⟨rfl, hw⟩; subst w') | (go_at_call 13; (with_reducible refine HS.mono ?_); rintro e w' ⟨rfl, hw⟩; subst w'))
      refine bodyPost_ret (v := .tuple #[.int .i64 4, .int .i64 (signN s.data.toList : Int)]) (by simp [results, Tryd.results7, go_sem]) rfl ?_
      exact ⟨ret_2 (by rw [HW.out]) (by rw [HW.out]), Below.refl _ _⟩
  · have b3 : ((s[0].toNat : Int) == 45) = false := beq_eq_false_iff_ne.2 (by omega)
    rw [show numAt s[0] r = false by unfold numAt; rw [a2, decide_eq_false a3]; rfl, if_neg Bool.false_ne_true] at hW
    by_cases a6 : s[0].toNat = 39
    · have b6 : ((s[0].toNat : Int) == 39) = true := by rw [beq_iff_eq]; omega
      rw [decide_eq_true a6, if_pos rfl] at hW
      have HW := Lib.hid hW
      clear hW a2 a3 a6 hr
      go_enter Tryd.func7, Tryd.ntmps7
      go_wp2_with (first | (go_at_call 8; (with_reducible refine HL.mono ?_); rintro e w' ⟨rfl, hw⟩; subst w') | (go_at_call 10; (with_reducible refine HD.mono ?_); rintro e w' ⟨rfl, hw⟩; subst w') | (go_at_call 12; (with_reducible refine HT.mono ?_); rintro e w' ⟨rfl, hb⟩))
      refine bodyPost_ret (v := .tuple #[.int .i64 3, .int .i64 (textN s.data.toList : Int)]) (by simp [results, Tryd.results7, go_sem]) rfl ?_
      exact ⟨ret_2 (by rw [HW.out]) (by rw [HW.out]), hb⟩
    · have b6 : ((s[0].toNat : Int) == 39) = false := beq_eq_false_iff_ne.2 (by omega)
      rw [decide_eq_false a6, if_neg Bool.false_ne_true] at hW
      have HW := Lib.hid hW
      clear hW a2 a3 a6 hr
      go_enter Tryd.func7, Tryd.ntmps7
      go_wp2_with (first | (go_at_call 8; (with_reducible refine HL.mono ?_); rintro e w' ⟨rfl, hw⟩; subst w') | (go_at_call 10; (with_reducible refine HD.mono ?_); rintro e w' ⟨rfl, hw⟩; subst w') | (go_at_call 13; (with_reducible refine HS.mono ?_); rintro e w' ⟨rfl, hw⟩; subst w'))
      refine bodyPost_ret (v := .tuple #[.int .i64 4, .int .i64 (signN s.data.toList : Int)]) (by simp [results, Tryd.results7, go_sem]) rfl ?_
      exact ⟨ret_2 (by rw [HW.out]) (by rw [HW.out]), Below.refl _ _⟩
end Go.Proofs.YtfbgbmkffippgaaDoor
