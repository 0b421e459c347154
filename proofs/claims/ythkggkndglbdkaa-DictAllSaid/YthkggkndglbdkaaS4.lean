import Derived.Test.YthkggkndglbdkaaS4a
namespace Go.Proofs.Ythkggkndglbdkaa.S
open Go Go.RowKit Go.Shelf Go.Proofs Go.Proofs.Ythkggkndglbdkaa

set_option maxRecDepth 100000 in
set_option maxHeartbeats 4000000 in
theorem dall_walk (p : Option Addr) (xs : List Op2) (len cap : Nat) (ask : ByteArray) (op : Int) (W : World) (hlen : xs.length = len) (hP : ParP W p xs) :
    Calls Try.prog 3 #[.slice p len cap, .string ask, (Value.int .i64 (op))] W fun e W' => e = .returned (.bool true) ∧ Below W.heap.size W W' := by
  have hbeg := begun_any W
  have hcut := fun W => cut_any ask W
  go_enter Try.func3, Try.ntmps3
  go_wp2_with (first
    | (go_at_call 7; (with_reducible refine hbeg.mono ?_); rintro e x0 ⟨rfl, b0⟩; clear hbeg)
    | (go_at_call 8; (with_reducible refine (hcut _).mono ?_); rintro e x1 ⟨rfl, hx⟩; subst x1; clear hcut))
  have z := zero_dm 10 x0
  have bz := below_alloc x0 Z31
  obtain ⟨mb, hmb⟩ : ∃ mb, x0.heap.size = mb := ⟨_, rfl⟩
  have hWm : W.heap.size ≤ mb := by have := b0.size; omega
  have hm0 : mb ≤ x0.heap.size := by omega
  rw [hmb] at z bz ⊢
  have HZ := Lib.hid (And.intro z (And.intro bz b0))
  clear z bz b0 hmb
  go_loopg [9, 10] 51 (fun gh lv iv w => ∃ (i : Nat) (l : List (K 10)) (L : List (K 10 × Int)), i ≤ 50 ∧ i ≤ len ∧ 51 ≤ i + gh ∧ iv = .int .i64 (i : Int) ∧ l.length ≤ i ∧ L.length ≤ i ∧ HRow w (mb + 1) 9 1 lv l.length (l.map sv) ∧ Dm x0 mb L w ∧ Cnt l L ∧ Below mb x0 w)
  case atStart => exact ⟨0, [], [], by omega, Nat.zero_le _, Nat.le_refl _, rfl, Nat.le_refl _, Nat.le_refl _, HRow.nil, HZ.out.1, fun s => rfl, HZ.out.2.1⟩
  case round =>
    obtain ⟨i, l, L, hi50, hil, hig, rfl, hll, hLl, hR, d, hcn, hbel⟩ := hrel
    obtain ⟨nl, hnl⟩ : ∃ nl, l.length = nl := ⟨_, rfl⟩
    rw [hnl] at hR hll
    obtain ⟨pl, cl, rfl, hcl, hcm⟩ := hR.isslice
    have hPl := hr_strs hR hnl
    by_cases hlt : i < len ∧ i < 50
    · obtain ⟨h1, h2⟩ := hlt
      have hd50 : (i : Int) < 50 := by omega
      obtain ⟨b, off, rfl, hbW, hc0, hc1⟩ := hP i (by omega)
      have hup : ∀ w, Below mb x0 w → ∀ q v, W.cell? ⟨b, q, none⟩ = some v → w.cell? ⟨b, q, none⟩ = some v := fun w hw q v h => by
        rw [hw.cell (p := ⟨b, q, none⟩) (by show b < mb; omega), HZ.out.2.2.cell (p := ⟨b, q, none⟩) hbW]; exact h
      obtain ⟨⟨kd, s0⟩, hop⟩ : ∃ o : Op2, xs[i] = o := ⟨xs[i], rfl⟩
      rw [hop] at hc0 hc1
      dsimp only at hc0 hc1
      have hw1 := hup wr hbel _ _ hc1
      have hcut := fun W => cut_any s0 W
      obtain ⟨s, hs⟩ : ∃ s : K 10, s.1 = cutB 10 s0 := ⟨cutK s0, rfl⟩
      rw [← hs] at hcut
      have HS := Lib.hid hs
      have HN := Lib.hid hnl
      have HC := Lib.hid (And.intro hc0 hup)
      clear hs hop hc0 hc1 hup hnl hP
      go_upto_block 2 with (go_at_call 8; (with_reducible refine (hcut _).mono ?_); rintro e x1 ⟨rfl, hx⟩; subst x1; clear hcut)
      go_cut [12, 13] from 50 to 62 (fun av kv wx => wx = wr ∧ ∃ (a : Int), av = .int .i64 a ∧ (∃ q, kv = .int .i64 q) ∧ ((a = -1 ∧ s ∉ l) ∨ ∃ n : Nat, a = (n : Int) ∧ ∃ h : n < l.length, l[n] = s))
      case first =>
        have hnl := HN.out
        go_wp2_with fail
        go_loopg [12, 13] (nl + 1) (fun kk av kv w => w = wr ∧ ∃ (a : Int) (k : Nat), k ≤ nl ∧ nl + 1 ≤ k + kk ∧ av = .int .i64 a ∧ kv = .int .i64 (k : Int) ∧ ((a = -1 ∧ ∀ j (h : j < l.length), j < k → l[j] ≠ s) ∨ ∃ n : Nat, a = (n : Int) ∧ ∃ h : n < l.length, l[n] = s))
        case atStart => exact ⟨rfl, -1, 0, Nat.zero_le _, by omega, rfl, rfl, .inl ⟨rfl, fun j h hj => by omega⟩⟩
        case round =>
          obtain ⟨rfl, a, k, hkl, hkk, rfl, rfl, hat⟩ := hrel
          by_cases hkn : k < nl
          · have hkl' : k < l.length := by omega
            obtain ⟨bo, oo, rfl, hbo, hco⟩ := hPl k hkl'
            obtain ⟨y, hy⟩ : ∃ y : K 10, l[k] = y := ⟨l[k], rfl⟩
            rw [hy] at hco
            have he := str_eq y s
            have hk3 : (k : Int) < (nl : Int) := by omega
            have HY := Lib.hid hy
            have HAT := Lib.hid hat
            by_cases hys : keyOf y = keyOf s
            · have e1 : (y.1.toList == s.1.toList) = true := by rw [he]; exact decide_eq_true hys
              clear he hy hat hnl
              go_wp2_with fail
              go_roundg (nl - k)
              case measure => omega
              case rel => exact ⟨rfl, (k : Int), k + 1, by omega, by omega, rfl, by simp, .inr ⟨k, rfl, hkl', by rw [HY.out]; exact key_ext hys⟩⟩
            · have e1 : (y.1.toList == s.1.toList) = false := by rw [he]; exact decide_eq_false hys
              clear he hy hat hnl
              go_wp2_with fail
              go_roundg (nl - k)
              case measure => omega
              case rel => exact ⟨rfl, a, k + 1, by omega, by omega, rfl, by simp, HAT.out.imp (fun h => ⟨h.1, fun j hj hjk => by
                by_cases e : j = k
                · subst e; rw [HY.out]; exact fun e => hys (by rw [e])
                · exact h.2 j hj (by omega)⟩) id⟩
          · have HAT := Lib.hid hat
            clear hat hnl
            go_wp2_with fail
            go_meet
            exact ⟨rfl, a, rfl, ⟨_, rfl⟩, HAT.out.imp (fun h => ⟨h.1, fun hm => by
              obtain ⟨j, hj, e⟩ := List.getElem_of_mem hm
              exact h.2 j hj (by have := HN.out; omega) e⟩) id⟩
      case rest =>
        obtain ⟨rfl, a, rfl, ⟨kq, rfl⟩, hat⟩ := hcut
        have hw0 := HC.out.2 wc hbel _ _ HC.out.1
        have htb := d.tm_bd s
        have htc := hcn s
        have htl := cnt_le s l
        have hhas := hcn.has d s
        have HD := Lib.hid (And.intro htc hcn)
        have hnl := HN.out
        have hadd := add_any s d (by omega) (by omega)
        have htake := take_any s d (by omega)
        clear hnl htb htc htl hcn
        have hnext : ∀ x1, Chg (fun b => b = mb) wc x1 → HRow x1 (mb + 1) 9 1 (.slice pl nl cl) nl (l.map sv) ∧ Below mb x0 x1 := fun x1 c => ⟨hR.chg (by omega) c, hbel.trans (chg_below c (Nat.le_trans hm0 hbel.size) (Nat.le_refl _))⟩
        have hms : mb + 1 ≤ wc.heap.size := d.lt
        obtain ⟨i0, hi0, hz0, hz1, hz2⟩ := info_parts info9
        have hnl30 : nl ≤ 50 := by omega
        have HLL := Lib.hid hLl
        by_cases hk0 : kd = 0
        · subst hk0
          have happ : ∀ x1, HRow x1 (mb + 1) 9 1 (.slice pl nl cl) nl (l.map sv) → mb + 1 ≤ x1.heap.size → ∃ g cap' w2, (Builtin.append_ #[32, 32] 32 #[.slice pl nl cl, .slice (some ⟨x1.heap.size, 0, none⟩) 1 1]).run Try.prog (x1.alloc (.cells #[.string s.1] 9)) = .ok (.slice (some ⟨g, 0, none⟩) (nl + 1) cap') w2 ∧
              HRow w2 (mb + 1) 9 1 (.slice (some ⟨g, 0, none⟩) (nl + 1) cap') (nl + 1) (l.map sv ++ [sv s]) ∧ (x1.alloc (.cells #[.string s.1] 9)).grownBy w2 (Value.slice pl nl cl).ownBlock := fun x1 r hs1 =>
            run_append_has (P := Try.prog) (x1.alloc (.cells #[.string s.1] 9)) (mb + 1) 32 32 9 i0 _ 1 16 Try.underlying32 hi0 hz0 hz1 hz2 rfl (by decide) (r.later (below_alloc x1 _)) ⟨x1.heap.size, 0, none⟩ 1 1 [.string s.1] rfl (cell_one_new _ _ _) (by simp [Value.oneCell']) (by decide) (by unfold maxLen; omega) (by omega) (by rw [World.size_alloc]; omega)
          have hfin : ∀ x1 g cap' w2, Dm x0 mb (insL keyOf s (tm s L + 1) L) x1 → Chg (fun b => b = mb) wc x1 → HRow w2 (mb + 1) 9 1 (.slice (some ⟨g, 0, none⟩) (nl + 1) cap') (nl + 1) (l.map sv ++ [sv s]) → (x1.alloc (.cells #[.string s.1] 9)).grownBy w2 (Value.slice pl nl cl).ownBlock →
              ∃ (l' : List (K 10)) (L' : List (K 10 × Int)), l'.length ≤ i + 1 ∧ L'.length ≤ i + 1 ∧ HRow w2 (mb + 1) 9 1 (.slice (some ⟨g, 0, none⟩) (nl + 1) cap') l'.length (l'.map sv) ∧ Dm x0 mb L' w2 ∧ Cnt l' L' ∧ Below mb x0 w2 := fun x1 g cap' w2 d1 c1 r2 g2 => by
            have hln : (l ++ [s]).length = nl + 1 := by rw [List.length_append, HN.out]; rfl
            have r1 := (hnext x1 c1).1.later (below_alloc x1 (.cells #[.string s.1] 9))
            have hb1 := (hnext x1 c1).2
            have hxs : mb ≤ x1.heap.size := Nat.le_trans (Nat.le_of_lt hms) c1.size
            refine ⟨l ++ [s], _, by omega, Nat.le_trans (ins_len_le s _ d.srt) (by have := HLL.out; omega), by rw [hln, List.map_append]; exact r2, (d1.later (below_alloc x1 _)).grown g2 (fun q hq => ?_), HD.out.2.add d.srt s, ?_⟩
            · obtain ⟨q1, q2⟩ := HRow.ty r1 q hq
              exact ⟨by omega, q2⟩
            · exact hb1.trans (((below_alloc x1 _).mono hxs).trans (grown_below g2 (fun q hq => by have := (HRow.ty r1 q hq).1; omega) (by rw [World.size_alloc]; omega)))
          have HF := Lib.hid hfin
          have HA := Lib.hid happ
          clear hfin happ htake hi0 hz0 hz1 hz2
          rcases hat with ⟨ha, hno⟩ | ⟨n, ha, hn, hns⟩
          · subst ha
            have hh : has s L = false := by rw [Bool.eq_false_iff]; exact fun e => hno (hhas.1 e)
            rw [hh] at hadd
            clear hhas hh hno
            go_wp2_with (first
              | (go_at_call 9; (with_reducible refine hadd.mono ?_); rintro e x1 ⟨rfl, d1, c1⟩; obtain ⟨g, cap', w2, hrun, r2, g2⟩ := HA.out x1 (hnext x1 c1).1 (Nat.le_trans hms c1.size))
              | (at_builtin; refine wpList_append_run rfl (.tmp 75) (.tmp 77) 32 rfl rfl rfl hrun ?_))
            go_roundg (50 - i)
            case measure => omega
            case rel =>
              obtain ⟨l', L', q1, q2, q3, q4, q5, q6⟩ := HF.out x1 g cap' w2 d1 c1 r2 g2
              exact ⟨i + 1, l', L', by omega, by omega, by omega, by simp, q1, q2, q3, q4, q5, q6⟩
          · subst ha
            have hh : has s L = true := hhas.2 (hns ▸ List.getElem_mem _)
            rw [hh] at hadd
            have ha0 : ¬ (n : Int) < 0 := by omega
            clear hhas hh hns
            go_wp2_with (first
              | (go_at_call 9; (with_reducible refine hadd.mono ?_); rintro e x1 ⟨rfl, d1, c1⟩; obtain ⟨g, cap', w2, hrun, r2, g2⟩ := HA.out x1 (hnext x1 c1).1 (Nat.le_trans hms c1.size))
              | (at_builtin; refine wpList_append_run rfl (.tmp 75) (.tmp 77) 32 rfl rfl rfl hrun ?_))
            go_roundg (50 - i)
            case measure => omega
            case rel =>
              obtain ⟨l', L', q1, q2, q3, q4, q5, q6⟩ := HF.out x1 g cap' w2 d1 c1 r2 g2
              exact ⟨i + 1, l', L', by omega, by omega, by omega, by simp, q1, q2, q3, q4, q5, q6⟩
        · have ek0 : (kd == 0) = false := by simp [hk0]
          have htl := take_len_le s d.srt
          rcases hat with ⟨ha, hno⟩ | ⟨n, ha, hn, hns⟩
          · subst ha
            have hh : has s L = false := by rw [Bool.eq_false_iff]; exact fun e => hno (hhas.1 e)
            rw [hh] at htake
            have hct : Cnt l (takeL s L) := HD.out.2.take d.srt s (fun t => by
              by_cases e : s = t
              · subst e; rw [if_pos rfl, cnt_none hno]
              · rw [if_neg e])
            have HCT := Lib.hid hct
            clear hhas hh hno hadd hct hi0 hz0 hz1 hz2
            go_wp2_with (go_at_call 10; (with_reducible refine htake.mono ?_); rintro e x1 ⟨rfl, d1, c1⟩; obtain ⟨r1, g1⟩ := hnext x1 c1)
            go_roundg (50 - i)
            case measure => omega
            case rel => exact ⟨i + 1, l, takeL s L, by omega, by omega, by omega, by simp, by have := HN.out; omega, by have := HLL.out; omega, by rw [HN.out]; exact r1, d1, HCT.out, g1⟩
          · subst ha
            have hh : has s L = true := hhas.2 (hns ▸ List.getElem_mem _)
            rw [hh] at htake
            have hct : Cnt (l.eraseIdx n) (takeL s L) := HD.out.2.take d.srt s (fun t => by rw [cnt_erase l n hn t, hns])
            have HCT := Lib.hid hct
            have hnn : n < nl := by have := HN.out; omega
            obtain ⟨g, cap', hpe, hcc, _⟩ := hR.slice (by omega)
            cases hpe
            obtain ⟨a1, ha1⟩ : ∃ a1 : Nat, a1 = n + 1 := ⟨_, rfl⟩
            have hwa : IntKind.i64.wrap ((n : Int) + 1) = (a1 : Int) := by rw [ha1, IntKind.wrap_i64]; omega
            have hb0 : (n : Int) ≤ (nl : Int) := by omega
            have hb1 : (a1 : Int) ≤ (nl : Int) := by omega
            have hb2 : (n : Int) ≤ (cl : Int) := by omega
            have hn0 : cl ≠ n := by omega
            have ha0 : (0 : Int) ≤ (n : Int) := by omega
            have happ : ∀ y ad, HRow y (mb + 1) 9 1 (.slice (some ⟨g, 0, none⟩) nl cl) nl (l.map sv) → (a1 < nl → ad = some ⟨g, a1, none⟩) → mb + 1 ≤ y.heap.size → ∃ p cap2 w', (Builtin.append_ #[32, 32] 32 #[.slice (some ⟨g, 0, none⟩) n n, .slice ad (nl - a1) (cl - a1)]).run Try.prog y = .ok (.slice p (nl - 1) cap2) w' ∧ HRow w' (mb + 1) 9 1 (.slice p (nl - 1) cap2) (nl - 1) ((l.eraseIdx n).map sv) ∧ y.grownBy w' none := fun y ad r had hs => by
              rw [ha1] at had ⊢
              have h := run_append_cut (P := Try.prog) y (mb + 1) 32 32 9 i0 _ 1 16 Try.underlying32 hi0 hz0 hz1 hz2 rfl (by decide) r n (cl - (n + 1)) hnn ad (fun h => by rw [Nat.mul_one]; exact had h) (by unfold maxLen; omega) (by omega) hs
              rw [Nat.mul_one, Nat.mul_one, ← List.map_take, ← List.map_drop, ← List.map_append, ← List.eraseIdx_eq_take_drop_succ] at h
              exact h
            have HAP := Lib.hid happ
            have hle : (l.eraseIdx n).length = nl - 1 := by rw [List.length_eraseIdx, if_pos hn, HN.out]
            have HLE := Lib.hid hle
            have HA := Lib.hid ha1
            clear hhas hh hns hadd hct hi0 hz0 hz1 hz2 happ ha1 hle
            go_upto_region 24 with (go_at_call 10; (with_reducible refine htake.mono ?_); rintro e x1 ⟨rfl, d1, c1⟩; obtain ⟨r1, g1⟩ := hnext x1 c1; have hs1 : mb + 1 ≤ x1.heap.size := Nat.le_trans hms c1.size)
            by_cases hn1 : cl = a1
            · subst hn1
              obtain ⟨p2, cap2, y2, hrun, r2, g2⟩ := HAP.out x1.drew (some ⟨g, 0, none⟩) r1 (fun h => by omega) hs1
              have e0 : nl - cl = 0 := by omega
              rw [e0] at hrun
              go_region_law? (refine step_append_run rfl (.tmp 90) (.tmp 94) 32 rfl (by simp [Act.eval, Act.put]) (by simp [Act.eval, Act.put]) hrun ?_)
              go_wp2_with fail
              go_roundg (50 - i)
              case measure => omega
              case rel => exact ⟨i + 1, l.eraseIdx n, takeL s L, by omega, by omega, by omega, by simp, by have := HLE.out; omega, by have := HLL.out; omega, by rw [HLE.out]; exact r2, (d1.later (below_drewN x1 1)).grown (o := none) g2 (fun q hq => by cases hq), HCT.out, g1.trans (((below_drewN x1 1).mono (Nat.le_of_succ_le hs1)).trans (grown_below g2 (fun q hq => by cases hq) (Nat.le_of_succ_le hs1)))⟩
            · obtain ⟨p2, cap2, y2, hrun, r2, g2⟩ := HAP.out x1.drew (some ⟨g, a1, none⟩) r1 (fun _ => rfl) hs1
              go_region_law? (refine step_append_run rfl (.tmp 90) (.tmp 94) 32 rfl (by simp [Act.eval, Act.put]) (by simp [Act.eval, Act.put]) hrun ?_)
              go_wp2_with fail
              go_roundg (50 - i)
              case measure => omega
              case rel => exact ⟨i + 1, l.eraseIdx n, takeL s L, by omega, by omega, by omega, by simp, by have := HLE.out; omega, by have := HLL.out; omega, by rw [HLE.out]; exact r2, (d1.later (below_drewN x1 1)).grown (o := none) g2 (fun q hq => by cases hq), HCT.out, g1.trans (((below_drewN x1 1).mono (Nat.le_of_succ_le hs1)).trans (grown_below g2 (fun q hq => by cases hq) (Nat.le_of_succ_le hs1)))⟩
    · have hex : ¬ i < len ∨ (i < len ∧ ¬ i < 50) := by omega
      obtain ⟨sa, hsa⟩ : ∃ s : K 10, s.1 = cutB 10 ask := ⟨cutK ask, rfl⟩
      obtain ⟨n2, hn2⟩ : ∃ n2, L.length = n2 := ⟨_, rfl⟩
      have hwd := words_any l pl nl cl wr hnl (by omega) hPl
      have hkeys : ∀ out : List (K 10), SrtK out → (∀ s, s ∈ out ↔ s ∈ l) → out = keys L := fun out q1 q2 => sorted_ext q1 (keys_srt d.srt) (fun s => by rw [q2, hcn.mem d])
      have hn2b : n2 ≤ 50 := by omega
      have HK := Lib.hid (And.intro hkeys hn2)
      have hsrt := Lib.hid d.srt
      have hbase : W.heap.size ≤ wr.heap.size := by have := HZ.out.2.2.size; have := hbel.size; omega
      have HB := Lib.hid (show Below W.heap.size W wr from HZ.out.2.2.trans (hbel.mono hWm))
      rw [← hsa]
      clear hlt hP hkeys hn2 hcn hR hPl hnl hbel hsa
      have fin1 : ∀ x1 y1, Below wr.heap.size wr x1 → Below x1.heap.size x1 y1 → Below W.heap.size W y1 := fun x1 y1 h1 h2 => HB.out.trans ((below_on h1 h2).mono hbase)
      rcases hex with hex | ⟨hex, hex'⟩
      all_goals
        go_upto_region 26 with (go_at_call 11; (with_reducible refine hwd.mono ?_); rintro e x1 ⟨out, q1, q2, q3, v, rfl, q4, b1⟩; have q5 := HK.out.1 out q1 q2; subst q5; rw [List.length_map, HK.out.2] at q4; obtain ⟨pv, cv, rfl, _, _⟩ := q4.isslice; have hS := hr_strs q4 (by rw [List.length_map]; exact HK.out.2); have d1 := d.later b1; clear q1 q2 q3 q4)
        have hlen1 := dlen_any d1
        rw [HK.out.2] at hlen1
        go_wp2_with (go_at_call 12; (with_reducible refine hlen1.mono ?_); rintro e w' ⟨rfl, hw⟩; subst w'; clear hlen1)
        go_loopg [15, 16, 17] 51 (fun gh rv bv iv w => ∃ (i : Nat) (r : Int) (b : Bool), i ≤ n2 ∧ 51 ≤ i + gh ∧ rv = .int .i64 r ∧ bv = .bool b ∧ iv = .int .i64 (i : Int) ∧ Below x1.heap.size x1 w ∧ ((r = 0 ∧ b = false ∧ ∀ j (h : j < L.length), j < i → L[j].1 ≠ sa) ∨ ∃ a, ∃ h : a < L.length, L[a].1 = sa ∧ r = (a : Int) ∧ b = true))
        case atStart => exact ⟨0, 0, false, Nat.zero_le _, Nat.le_refl _, rfl, rfl, rfl, .refl _ _, .inl ⟨rfl, rfl, fun j h hj => by omega⟩⟩
        case round =>
          obtain ⟨j, r, bb, hjn, hjg, rfl, rfl, rfl, hb, hrel2⟩ := hrel
          have HR2 := Lib.hid hrel2
          clear hrel2
          have d2 := d1.later hb
          by_cases hjl : j < n2
          · have hj1 : j < L.length := by have := HK.out.2; omega
            obtain ⟨s, hs⟩ : ∃ s : K 10, L[j].1 = s := ⟨L[j].1, rfl⟩
            obtain ⟨k1, k2⟩ := rank_at hsrt.out hj1 hs
            have hrk := drank_any s d2
            rw [k1, k2] at hrk
            have hat : ∀ w, Dm x0 mb L w → Calls Try.prog 14 #[(Value.pointer (some ⟨mb, 0, none⟩)), (Value.int .i64 ((j : Int)))] w fun e w' => e = .returned (.tuple #[.string s.1, .bool true]) ∧ Below w.heap.size w w' := fun w hd => by
              have h := dat_any (j : Int) (by omega) (by omega) hd
              rw [look_at' hj1] at h
              rw [← hs]; exact h
            obtain ⟨b, off, rfl, hbW, hc⟩ := (hS.later hb) j (by rw [List.length_map]; exact hj1)
            rw [List.getElem_map, hs] at hc
            have hj3 : (j : Int) < (n2 : Int) := by omega
            have hst := str_eq s sa
            have HS := Lib.hid hs
            clear hs k1 k2
            by_cases hsa : keyOf s = keyOf sa
            · have e1 : (s.1.toList == sa.1.toList) = true := by rw [hst]; exact decide_eq_true hsa
              clear hst
              go_wp2_with (first
                | (go_at_call 13; (with_reducible refine hrk.mono ?_); rintro e y1 ⟨rfl, c1⟩; have d3 := d2.later c1)
                | (go_at_call 14; (with_reducible refine (hat _ d3).mono ?_); rintro e y2 ⟨rfl, c2⟩; have c3 := below_on c1 c2; have hc2 := (World.cell?_of_block (w := wr) (c3.block b hbW)).trans hc))
              go_roundg (50 - j)
              case measure => omega
              case rel => exact ⟨j + 1, (j : Int), true, by omega, by omega, rfl, rfl, by simp, below_on hb c3, .inr ⟨j, hj1, by rw [HS.out]; exact key_ext hsa, rfl, rfl⟩⟩
            · have e1 : (s.1.toList == sa.1.toList) = false := by rw [hst]; exact decide_eq_false hsa
              clear hst
              go_wp2_with (first
                | (go_at_call 13; (with_reducible refine hrk.mono ?_); rintro e y1 ⟨rfl, c1⟩; have d3 := d2.later c1)
                | (go_at_call 14; (with_reducible refine (hat _ d3).mono ?_); rintro e y2 ⟨rfl, c2⟩; have c3 := below_on c1 c2; have hc2 := (World.cell?_of_block (w := wr) (c3.block b hbW)).trans hc))
              go_roundg (50 - j)
              case measure => omega
              case rel => exact ⟨j + 1, r, bb, by omega, by omega, rfl, rfl, by simp, below_on hb c3, HR2.out.imp (fun h => ⟨h.1, h.2.1, fun q hq hqj => by
                by_cases e : q = j
                · subst e; rw [HS.out]; exact fun e => hsa (by rw [e])
                · exact h.2.2 q hq (by omega)⟩) id⟩
          · obtain rfl : j = n2 := by omega
            have hfin : has sa L = bb ∧ rankOf sa L = r := by
              rcases HR2.out with ⟨h1, h2, h3⟩ | ⟨a, h1, h2, h3, h4⟩
              · subst h1 h2
                exact rank_none (fun q hq => h3 q hq (by have := HK.out.2; omega))
              · subst h3 h4
                exact rank_at hsrt.out h1 h2
            have hrk := drank_any sa d2
            rw [hfin.1, hfin.2] at hrk
            have hatm : ∀ w, Dm x0 mb L w → Calls Try.prog 14 #[(Value.pointer (some ⟨mb, 0, none⟩)), (Value.int .i64 ((-1)))] w fun e w' => e = .returned (.tuple #[.string ⟨#[]⟩, .bool false]) ∧ Below w.heap.size w w' := fun w hd => by
              have h := dat_any (-1) (by omega) (by omega) hd
              rw [look_out (by omega)] at h
              exact h
            have hatn : ∀ w, Dm x0 mb L w → Calls Try.prog 14 #[(Value.pointer (some ⟨mb, 0, none⟩)), (Value.int .i64 ((j : Int)))] w fun e w' => e = .returned (.tuple #[.string ⟨#[]⟩, .bool false]) ∧ Below w.heap.size w w' := fun w hd => by
              have h := dat_any (j : Int) (by omega) (by omega) hd
              rw [look_out (by have := HK.out.2; omega)] at h
              exact h
            have hspn : ∀ w, Dm x0 mb L w → Below x1.heap.size x1 w → Calls Try.prog 15 #[(Value.pointer (some ⟨mb, 0, none⟩)), .slice pv j cv, (Value.int .i64 (op)), .string sa.1] w fun e w' => e = .returned (.bool true) ∧ Below w.heap.size w w' := fun w hd hbw => spanlaw_any op sa hd pv j cv HK.out.2 (by omega) (hS.later hbw)
            clear hfin
            go_wp2_with (first
              | (go_at_call 13; (with_reducible refine hrk.mono ?_); rintro e y1 ⟨rfl, c1⟩; have d3 := d2.later c1; clear hrk)
              | (go_at_call 14; (with_reducible refine (hatm _ d3).mono ?_); rintro e y2 ⟨rfl, c2⟩; have d4 := d3.later c2; clear d3)
              | (go_at_call 14; (with_reducible refine (hatn _ d4).mono ?_); rintro e y3 ⟨rfl, c3⟩; have d5 := d4.later c3; clear d4; have c4 := below_on (below_on hb c1) (below_on c2 c3))
              | (go_at_call 15; (with_reducible refine (hspn _ d5 c4).mono ?_); rintro e y4 ⟨rfl, c5⟩))
            go_ret
            exact ⟨rfl, fin1 x1 _ b1 (below_on c4 c5)⟩
end Go.Proofs.Ythkggkndglbdkaa.S
