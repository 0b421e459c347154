import Derived.Test.YtglfmbpcapendaaD
namespace Go.Proofs.Ytglfmbpcapendaa.S
open Go Go.RowKit Go.Proofs Go.Proofs.Ytglfmbpcapendaa
variable {M : Nat}

set_option maxRecDepth 100000 in
set_option maxHeartbeats 1000000 in
theorem wF_any (B : Nat) : ∀ (t : T (K M) Int) (p : Option Addr) (W : World), t ≠ .nil → t.size ≤ 1000000 → B ≤ W.heap.size → Tr W B t p → Calls Try.prog 53 #[.pointer p] W (MakesL W B t.toL.tail)
  | .nil, _, _, h, _, _, _ => absurd rfl h
  | .nd k v .nil r, p, W, _, _, _, h => by
    obtain ⟨b, lp, rp, rfl, _, hh, hl, hr⟩ := h
    obtain rfl : lp = none := hl
    obtain ⟨_, _, _, c3, c4⟩ := nd_of hh
    go_enter Try.func53, Try.ntmps53
    go_wp2_with fail
    go_ret
    exact ⟨r, rp, rfl, hr, rfl, .refl _ _⟩
  | .nd k v (.nd k2 v2 l2 r2) r, p, W, _, hs, hB, h => by
    obtain ⟨b, lp, rp, rfl, _, hh, hl, hr⟩ := h
    have hn := nd_of hh
    have hs' : (l2.size + 1 + r2.size) + 1 + r.size ≤ 1000000 := hs
    have ih := wF_any B (.nd k2 v2 l2 r2) lp W.drew (by simp) (by show l2.size + 1 + r2.size ≤ 1000000; omega) hB hl.drew
    have HW := Lib.hid (And.intro hn (And.intro hr hB))
    obtain ⟨bl, _, _, rfl, _⟩ := hl
    have hnd := hn.later (Below.refl _ W).drew
    obtain ⟨_, _, _, c3, c4⟩ := hn
    clear hh hr
    go_enter Try.func53, Try.ntmps53
    go_wp2_with fail
    go_region_held3 (fun w => w.cell? ⟨b, 3, none⟩ = some (.pointer (some ⟨bl, 0, none⟩)) ∧ w.cell? ⟨b, 4, none⟩ = some (.pointer rp)) (first | exact ⟨c3, c4⟩ | exact ⟨hnd.c3, hnd.c4⟩ | exact ⟨hn1.c3, hn1.c4⟩ | exact ⟨hn2.c3, hn2.c4⟩) (first
      | (go_at_call 53; (with_reducible refine ih.mono ?_); clear ih; rintro e x1 ⟨t1, p1, rfl, ht1, hL1, hb1⟩; have hb1 := below_on (Below.refl _ W).drew hb1; have hn1 := HW.out.1.later hb1; have bal := balanced_any b k v _ _ _ t1 r p1 rp B (by have := size_of hL1; rw [List.length_tail, T.len] at this; simp only [T.size] at this; omega) x1 (Nat.le_trans HW.out.2.2 hb1.size) hn1 ht1 (HW.out.2.1.later hb1))
      | (go_at_call 45; (with_reducible refine bal.mono ?_); clear bal; rintro e x2 ⟨t2, p2, rfl, ht2, hL2, hb2⟩; have hb2 := below_on hb1 hb2; have hn2 := HW.out.1.later hb2))
    go_wp2_with fail
    go_ret
    refine ⟨t2, p2, rfl, ht2, ?_, hb2⟩
    rw [hL2, hL1]
    show _ = ((T.nd k2 v2 l2 r2).toL ++ (k, v) :: r.toL).tail
    rw [List.tail_append_of_ne_nil (by simp [T.toL])]
set_option maxRecDepth 100000 in
set_option maxHeartbeats 1000000 in
theorem wL_any (B : Nat) : ∀ (t : T (K M) Int) (p : Option Addr) (W : World), t ≠ .nil → t.size ≤ 1000000 → B ≤ W.heap.size → Tr W B t p → Calls Try.prog 52 #[.pointer p] W (MakesL W B t.toL.dropLast)
  | .nil, _, _, h, _, _, _ => absurd rfl h
  | .nd k v l .nil, p, W, _, _, _, h => by
    obtain ⟨b, lp, rp, rfl, _, hh, hl, hr⟩ := h
    obtain rfl : rp = none := hr
    obtain ⟨_, _, _, c3, c4⟩ := nd_of hh
    go_enter Try.func52, Try.ntmps52
    go_wp2_with fail
    go_ret
    exact ⟨l, lp, rfl, hl, by simp [T.toL], .refl _ _⟩
  | .nd k v l (.nd k2 v2 l2 r2), p, W, _, hs, hB, h => by
    obtain ⟨b, lp, rp, rfl, _, hh, hl, hr⟩ := h
    have hn := nd_of hh
    have hs' : l.size + 1 + (l2.size + 1 + r2.size) ≤ 1000000 := hs
    have ih := wL_any B (.nd k2 v2 l2 r2) rp W.drew (by simp) (by show l2.size + 1 + r2.size ≤ 1000000; omega) hB hr.drew
    have HW := Lib.hid (And.intro hn (And.intro hl hB))
    obtain ⟨bl, _, _, rfl, _⟩ := hr
    have hnd := hn.later (Below.refl _ W).drew
    obtain ⟨_, _, _, c3, c4⟩ := hn
    clear hh hl
    go_enter Try.func52, Try.ntmps52
    go_wp2_with fail
    go_region_held3 (fun w => w.cell? ⟨b, 3, none⟩ = some (.pointer lp) ∧ w.cell? ⟨b, 4, none⟩ = some (.pointer (some ⟨bl, 0, none⟩))) (first | exact ⟨c3, c4⟩ | exact ⟨hnd.c3, hnd.c4⟩ | exact ⟨hn1.c3, hn1.c4⟩ | exact ⟨hn2.c3, hn2.c4⟩) (first
      | (go_at_call 52; (with_reducible refine ih.mono ?_); clear ih; rintro e x1 ⟨t1, p1, rfl, ht1, hL1, hb1⟩; have hb1 := below_on (Below.refl _ W).drew hb1; have hn1 := HW.out.1.later hb1; have bal := balanced_any b k v _ _ _ l t1 lp p1 B (by have := size_of hL1; rw [List.length_dropLast, T.len] at this; simp only [T.size] at this; omega) x1 (Nat.le_trans HW.out.2.2 hb1.size) hn1 (HW.out.2.1.later hb1) ht1)
      | (go_at_call 45; (with_reducible refine bal.mono ?_); clear bal; rintro e x2 ⟨t2, p2, rfl, ht2, hL2, hb2⟩; have hb2 := below_on hb1 hb2; have hn2 := HW.out.1.later hb2))
    go_wp2_with fail
    go_ret
    refine ⟨t2, p2, rfl, ht2, ?_, hb2⟩
    rw [hL2, hL1]
    show _ = (l.toL ++ (k, v) :: (T.nd k2 v2 l2 r2).toL).dropLast
    rw [List.dropLast_append_of_ne_nil (by simp), List.dropLast_cons_of_ne_nil (by simp [T.toL])]

/-! ### at -/
def look (L : List (K M × Int)) (i : Int) : Option (K M × Int) := if 0 ≤ i then L[i.toNat]? else none
/-- The pointer that is told: a node of that key and value, or none. -/
def Found (W : World) (B : Nat) : Option (K M × Int) → Option Addr → Prop
  | none, q => q = none
  | some kv, q => ∃ b n lp rp, q = some ⟨b, 0, none⟩ ∧ B ≤ b ∧ Nd W b kv.1 kv.2 n lp rp
/-- How many a pointer's node has, by its own cell. -/
def szOf (w : World) : Value → Nat
  | .pointer (some a) => match w.cell? ⟨a.block, 2, none⟩ with | some (.int _ n) => n.toNat | _ => 0
  | _ => 0
theorem szOf_tr {W : World} {B : Nat} {t : T (K M) Int} {p : Option Addr} (h : Tr W B t p) : szOf W (.pointer p) = t.size := by
  cases t with
  | nil => obtain rfl : p = none := h; rfl
  | nd k v l r =>
    obtain ⟨b, lp, rp, rfl, _, hh, _⟩ := h
    simp only [szOf, (nd_of hh).c2, T.size]
    omega
theorem look_left {L R : List (K M × Int)} {kv : K M × Int} {i : Int} (h : i < L.length) : look (L ++ kv :: R) i = look L i := by
  unfold look
  split
  · rw [List.getElem?_append_left (by omega)]
  · rfl
theorem look_at {L R : List (K M × Int)} {kv : K M × Int} {i : Int} (h : i = L.length) : look (L ++ kv :: R) i = some kv := by
  unfold look
  rw [if_pos (by omega), h]
  simp
theorem look_right {L R : List (K M × Int)} {kv : K M × Int} {i : Int} (h : (L.length : Int) < i) : look (L ++ kv :: R) i = look R (i - (L.length + 1)) := by
  unfold look
  rw [if_pos (by omega), if_pos (by omega), List.getElem?_append_right (by omega)]
  obtain ⟨j, hj⟩ : ∃ j : Nat, i.toNat - L.length = j + 1 := ⟨i.toNat - L.length - 1, by omega⟩
  rw [hj, List.getElem?_cons_succ]
  congr 1
  omega
theorem look_nil (i : Int) : look ([] : List (K M × Int)) i = none := by unfold look; split <;> rfl

set_option maxRecDepth 100000 in
set_option maxHeartbeats 1000000 in
theorem at_any (B : Nat) (t : T (K M) Int) (p : Option Addr) (i : Int) (hi0 : -9223372036854775808 ≤ i) (hi1 : i ≤ 9223372036854775807) (hs : t.size ≤ 1000000) (W : World) (h : Tr W B t p) :
    Calls Try.prog 51 #[.pointer p, (Value.int .i64 (i))] W fun e w' => w' = W ∧ ∃ q, e = .returned (.pointer q) ∧ Found W B (look t.toL i) q := by
  go_enter Try.func51, Try.ntmps51
  go_wp2_with fail
  go_loopw [0, 1] (fun pv iv w => ∃ (t' : T (K M) Int) (p' : Option Addr) (i' : Int), pv = .pointer p' ∧ iv = .int .i64 i' ∧ w = W ∧ Tr W B t' p' ∧ t'.size ≤ 1000000 ∧ -9223372036854775808 ≤ i' ∧ i' ≤ 9223372036854775807 ∧ look t.toL i = look t'.toL i') (fun pv _ w => szOf w pv)
  case atStart => exact ⟨t, p, i, rfl, rfl, rfl, h, hs, hi0, hi1, rfl⟩
  case round =>
    obtain ⟨t', p', i', rfl, rfl, rfl, ht, hs', hj0, hj1, hlk⟩ := hrel
    have hsz := szOf_tr ht
    cases t' with
    | nil =>
      obtain rfl : p' = none := ht
      go_wp2_with fail
      go_ret
      exact ⟨rfl, none, rfl, by rw [hlk, T.toL, look_nil]; rfl⟩
    | nd k v l r =>
      obtain ⟨b, lp, rp, rfl, hb, hh, hl, hr⟩ := ht
      have hn := nd_of hh
      have HN := Lib.hid hn
      have cl := count_any l lp B wr hl
      have hs2 : l.size + 1 + r.size ≤ 1000000 := hs'
      have szl := szOf_tr hl
      have szr := szOf_tr hr
      have hll := T.len l
      obtain ⟨zl, hzl⟩ : ∃ zl, l.size = zl := ⟨_, rfl⟩
      rw [hzl] at cl szl hll hs2
      obtain ⟨_, _, _, c3, c4⟩ := hn
      have HSZ := Lib.hid hsz
      have HS2 := Lib.hid (And.intro szl szr)
      clear hsz szl szr hh
      have hszn : (T.nd k v l r).size = zl + 1 + r.size := by show l.size + 1 + r.size = _; rw [hzl]
      rcases Int.lt_trichotomy i' (zl : Int) with hlt | heq | hgt
      · go_wp2_with (go_at_call 35; (with_reducible refine cl.mono ?_); rintro e x1 ⟨rfl, rfl⟩)
        rw [hszn] at HSZ
        refine ⟨⟨l, lp, i', rfl, rfl, trivial, hl, by omega, hj0, hj1, by rw [hlk, T.toL, look_left (by omega)]⟩, by rw [HSZ.out, HS2.out.1]; omega⟩
      · go_wp2_with (go_at_call 35; (with_reducible refine cl.mono ?_); rintro e x1 ⟨rfl, rfl⟩)
        go_ret
        exact ⟨rfl, _, rfl, by rw [hlk, T.toL, look_at (by omega)]; exact ⟨b, _, _, _, rfl, hb, HN.out⟩⟩
      · go_wp2_with (go_at_call 35; (with_reducible refine cl.mono ?_); rintro e x1 ⟨rfl, rfl⟩)
        rw [hszn] at HSZ
        refine ⟨⟨r, rp, i' - (zl + 1), rfl, rfl, trivial, hr, by omega, by omega, by omega, by rw [hlk, T.toL, look_right (by omega), hll]⟩, by rw [HSZ.out, HS2.out.2]; omega⟩

set_option maxRecDepth 100000 in
set_option maxHeartbeats 1000000 in
theorem glued_any (B : Nat) (l r : T (K M) Int) (pl pr : Option Addr) (hs : l.size + r.size ≤ 1000000) (W : World) (hB : B ≤ W.heap.size) (h1 : Tr W B l pl) (h2 : Tr W B r pr) :
    Calls Try.prog 46 #[.pointer pl, .pointer pr] W (MakesL W B (l.toL ++ r.toL)) := by
  have cl := count_any l pl B W h1
  have cr := count_any r pr B W h2
  by_cases hc : r.size < l.size
  · have hc' : (r.size : Int) < (l.size : Int) := by omega
    have hl0 : l ≠ .nil := by intro e; rw [e] at hc; simp [T.size] at hc
    rcases List.eq_nil_or_concat l.toL with e | ⟨L0, kv, e⟩
    · exact absurd (T.toL_nil e) hl0
    · rw [List.concat_eq_append] at e
      have hlen : l.size = L0.length + 1 := by rw [← T.len, e]; simp
      have hat := at_any B l pl (L0.length : Int) (by omega) (by omega) (by omega) W h1
      rw [e, look_at rfl] at hat
      have hwl := wL_any B l pl W hl0 (by omega) hB h1
      rw [hlen] at cl hc'
      go_enter Try.func46, Try.ntmps46
      go_wp2_with (first
        | (go_at_call 35; (with_reducible refine cl.mono ?_); rintro e x1 ⟨rfl, rfl⟩)
        | (go_at_call 35; (with_reducible refine cr.mono ?_); rintro e x1 ⟨rfl, rfl⟩)
        | (go_at_call 51; (with_reducible refine hat.mono ?_); rintro e x1 ⟨rfl, q, rfl, b, n, lp, rp, rfl, hb, hn⟩)
        | (go_at_call 52; (with_reducible refine hwl.mono ?_); rintro e x2 ⟨t1, p1, rfl, ht1, hL1, hb1⟩; have bal := balanced_any b kv.1 kv.2 n lp rp t1 r p1 pr B (by have := size_of hL1; rw [List.length_dropLast, T.len] at this; omega) x2 (Nat.le_trans hB hb1.size) (hn.later hb1) ht1 (h2.later hb1))
        | (go_at_call 45; (with_reducible refine bal.mono ?_); clear bal; rintro e x3 ⟨t2, p2, rfl, ht2, hL2, hb2⟩))
      go_ret
      refine ⟨t2, p2, rfl, ht2, ?_, below_on hb1 hb2⟩
      rw [hL2, hL1, e]
      simp
  · have hc' : ¬ (r.size : Int) < (l.size : Int) := by omega
    cases r with
    | nil =>
      obtain rfl : pr = none := h2
      have hl0 : l = .nil := by
        cases l with
        | nil => rfl
        | nd k v a c => exact absurd (by simp [T.size]; omega) hc
      subst hl0
      go_enter Try.func46, Try.ntmps46
      go_wp2_with (first
        | (go_at_call 35; (with_reducible refine cl.mono ?_); rintro e x1 ⟨rfl, rfl⟩)
        | (go_at_call 35; (with_reducible refine cr.mono ?_); rintro e x1 ⟨rfl, rfl⟩))
      go_ret
      exact ⟨.nil, none, rfl, rfl, rfl, .refl _ _⟩
    | nd k v a c =>
      have hwf := wF_any B (.nd k v a c) pr W (by simp) (by omega) hB h2
      have hat := at_any B (.nd k v a c) pr 0 (by omega) (by omega) (by omega) W h2
      obtain ⟨kv, L1, hL⟩ : ∃ kv L1, (T.nd k v a c).toL = kv :: L1 := by
        cases hq : (T.nd k v a c).toL with
        | nil => simp [T.toL] at hq
        | cons kv L1 => exact ⟨kv, L1, rfl⟩
      have hlk : look (kv :: L1) 0 = some kv := look_at (L := []) rfl
      rw [hL, hlk] at hat
      rw [hL] at hwf
      have hsz : (T.nd k v a c).size = L1.length + 1 := by rw [← T.len, hL]; simp
      rw [hL]
      rw [hsz] at cr hc' hs
      have H2 := Lib.hid h2
      obtain ⟨b0, _, _, rfl, _⟩ := h2
      go_enter Try.func46, Try.ntmps46
      go_wp2_with (first
        | (go_at_call 35; (with_reducible refine cl.mono ?_); rintro e x1 ⟨rfl, rfl⟩)
        | (go_at_call 35; (with_reducible refine cr.mono ?_); rintro e x1 ⟨rfl, rfl⟩)
        | (go_at_call 51; (with_reducible refine hat.mono ?_); rintro e x1 ⟨rfl, q, rfl, b, n, lp, rp, rfl, hb, hn⟩)
        | (go_at_call 53; (with_reducible refine hwf.mono ?_); rintro e x2 ⟨t1, p1, rfl, ht1, hL1, hb1⟩; have bal := balanced_any b kv.1 kv.2 n lp rp l t1 pl p1 B (by have := size_of hL1; rw [List.tail_cons] at this; omega) x2 (Nat.le_trans hB hb1.size) (hn.later hb1) (h1.later hb1) ht1)
        | (go_at_call 45; (with_reducible refine bal.mono ?_); clear bal; rintro e x3 ⟨t2, p2, rfl, ht2, hL2, hb2⟩))
      go_ret
      refine ⟨t2, p2, rfl, ht2, ?_, below_on hb1 hb2⟩
      rw [hL2, hL1]
      rfl
end Go.Proofs.Ytglfmbpcapendaa.S
