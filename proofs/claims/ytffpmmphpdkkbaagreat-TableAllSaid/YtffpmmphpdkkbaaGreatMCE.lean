/-  -/
import Derived.Test.YtffpmmphpdkkbaaGreatMCA
import Derived.Test.YtffpmmphpdkkbaaGreatMSep
import Derived.Test.YtffpmmphpdkkbaaGreatMEq
import Derived.Defers
import Derived.Deep.RegionLaw
import Derived.Deep.CutRange
import Derived.Shelf.Abstract
import Derived.Recover
namespace Go.Proofs.YtffpmmphpdkkbaaGreat.Co.S
open Go Go.RowKit Go.Proofs Go.Proofs.YtffpmmphpdkkbaaGreat Go.Proofs.YtffpmmphpdkkbaaGreat.Co
variable {M : Nat}

set_option maxRecDepth 100000 in
set_option maxHeartbeats 1000000 in
theorem wF_any (B : Nat) : ∀ (t : T (K M) Int) (p : Option Addr) (W : World), t ≠ .nil → t.size ≤ 1000000 → B ≤ W.heap.size → Tr W B t p → Calls Tryz.prog 137 #[.pointer p] W (MakesL W B t.toL.tail)
  | .nil, _, _, h, _, _, _ => absurd rfl h
  | .nd k v .nil r, p, W, _, _, _, h => by
    obtain ⟨b, lp, rp, rfl, _, hh, hl, hr⟩ := h
    obtain rfl : lp = none := hl
    obtain ⟨_, _, _, c3, c4⟩ := nd_of hh
    go_enter Tryz.func137, Tryz.ntmps137
    go_wp2_with fail
    go_ret
    exact ⟨r, rp, rfl, hr, rfl, .refl _ _⟩
  | .nd k v (.nd k2 v2 l2 r2) r, p, W, _, hs, hB, h => by
    obtain ⟨b, lp, rp, rfl, _, hh, hl, hr⟩ := h
    have hn := nd_of hh
    have hs' : (l2.size + 1 + r2.size) + 1 + r.size ≤ 1000000 := hs
    have ih := wF_any B (.nd k2 v2 l2 r2) lp W.drew (by simp) (by show l2.size + 1 + r2.size ≤ 1000000; omega) hB hl.drew
    have HW := Lib.hid (And.intro hn (And.intro hr hB))
    obtain ⟨bl, _, _, rfl, _⟩ := hl
    have hnd := hn.later (Below.refl _ W).drew
    obtain ⟨_, _, _, c3, c4⟩ := hn
    clear hh hr
    go_enter Tryz.func137, Tryz.ntmps137
    go_wp2_with fail
    go_region_held3 (fun w => w.cell? ⟨b, 3, none⟩ = some (.pointer (some ⟨bl, 0, none⟩)) ∧ w.cell? ⟨b, 4, none⟩ = some (.pointer rp)) (first | exact ⟨c3, c4⟩ | exact ⟨hnd.c3, hnd.c4⟩ | exact ⟨hn1.c3, hn1.c4⟩ | exact ⟨hn2.c3, hn2.c4⟩) (first
      | (go_at_call 137; (with_reducible refine ih.mono ?_); clear ih; rintro e x1 ⟨t1, p1, rfl, ht1, hL1, hb1⟩; have hb1 := below_on (Below.refl _ W).drew hb1; have hn1 := HW.out.1.later hb1; have bal := balanced_any b k v _ _ _ t1 r p1 rp B (by have := size_of hL1; rw [List.length_tail, T.len] at this; simp only [T.size] at this; omega) x1 (Nat.le_trans HW.out.2.2 hb1.size) hn1 ht1 (HW.out.2.1.later hb1))
      | (go_at_call 127; (with_reducible refine bal.mono ?_); clear bal; rintro e x2 ⟨t2, p2, rfl, ht2, hL2, hb2⟩; have hb2 := below_on hb1 hb2; have hn2 := HW.out.1.later hb2))
    go_wp2_with fail
    go_ret
    refine ⟨t2, p2, rfl, ht2, ?_, hb2⟩
    rw [hL2, hL1]
    show _ = ((T.nd k2 v2 l2 r2).toL ++ (k, v) :: r.toL).tail
    rw [List.tail_append_of_ne_nil (by simp [T.toL])]
set_option maxRecDepth 100000 in
set_option maxHeartbeats 1000000 in
theorem wL_any (B : Nat) : ∀ (t : T (K M) Int) (p : Option Addr) (W : World), t ≠ .nil → t.size ≤ 1000000 → B ≤ W.heap.size → Tr W B t p → Calls Tryz.prog 136 #[.pointer p] W (MakesL W B t.toL.dropLast)
  | .nil, _, _, h, _, _, _ => absurd rfl h
  | .nd k v l .nil, p, W, _, _, _, h => by
    obtain ⟨b, lp, rp, rfl, _, hh, hl, hr⟩ := h
    obtain rfl : rp = none := hr
    obtain ⟨_, _, _, c3, c4⟩ := nd_of hh
    go_enter Tryz.func136, Tryz.ntmps136
    go_wp2_with fail
    go_ret
    exact ⟨l, lp, rfl, hl, by simp [T.toL], .refl _ _⟩
  | .nd k v l (.nd k2 v2 l2 r2), p, W, _, hs, hB, h => by
    obtain ⟨b, lp, rp, rfl, _, hh, hl, hr⟩ := h
    have hn := nd_of hh
    have hs' : l.size + 1 + (l2.size + 1 + r2.size) ≤ 1000000 := hs
    have ih := wL_any B (.nd k2 v2 l2 r2) rp W.drew (by simp) (by show l2.size + 1 + r2.size ≤ 1000000; omega) hB hr.drew
    have HW := Lib.hid (And.intro hn (And.intro hl hB))
    obtain ⟨bl, _, _, rfl, _⟩ := hr
    have hnd := hn.later (Below.refl _ W).drew
    obtain ⟨_, _, _, c3, c4⟩ := hn
    clear hh hl
    go_enter Tryz.func136, Tryz.ntmps136
    go_wp2_with fail
    go_region_held3 (fun w => w.cell? ⟨b, 3, none⟩ = some (.pointer lp) ∧ w.cell? ⟨b, 4, none⟩ = some (.pointer (some ⟨bl, 0, none⟩))) (first | exact ⟨c3, c4⟩ | exact ⟨hnd.c3, hnd.c4⟩ | exact ⟨hn1.c3, hn1.c4⟩ | exact ⟨hn2.c3, hn2.c4⟩) (first
      | (go_at_call 136; (with_reducible refine ih.mono ?_); clear ih; rintro e x1 ⟨t1, p1, rfl, ht1, hL1, hb1⟩; have hb1 := below_on (Below.refl _ W).drew hb1; have hn1 := HW.out.1.later hb1; have bal := balanced_any b k v _ _ _ l t1 lp p1 B (by have := size_of hL1; rw [List.length_dropLast, T.len] at this; simp only [T.size] at this; omega) x1 (Nat.le_trans HW.out.2.2 hb1.size) hn1 (HW.out.2.1.later hb1) ht1)
      | (go_at_call 127; (with_reducible refine bal.mono ?_); clear bal; rintro e x2 ⟨t2, p2, rfl, ht2, hL2, hb2⟩; have hb2 := below_on hb1 hb2; have hn2 := HW.out.1.later hb2))
    go_wp2_with fail
    go_ret
    refine ⟨t2, p2, rfl, ht2, ?_, hb2⟩
    rw [hL2, hL1]
    show _ = (l.toL ++ (k, v) :: (T.nd k2 v2 l2 r2).toL).dropLast
    rw [List.dropLast_append_of_ne_nil (by simp), List.dropLast_cons_of_ne_nil (by simp [T.toL])]

/-! ### at -/
def look (L : List (K M × Int)) (i : Int) : Option (K M × Int) := if 0 ≤ i then L[i.toNat]? else none
/-- The pointer that is told: a node of that key and value, or none. -/
def Found (W : World) (B : Nat) : Option (K M × Int) → Option Addr → Prop
  | none, q => q = none
  | some kv, q => ∃ b n lp rp, q = some ⟨b, 0, none⟩ ∧ B ≤ b ∧ Nd W b kv.1 kv.2 n lp rp
/-- How many a pointer's node has, by its own cell. -/
def szOf (w : World) : Value → Nat
  | .pointer (some a) => match w.cell? ⟨a.block, 2, none⟩ with | some (.int _ n) => n.toNat | _ => 0
  | _ => 0
theorem szOf_tr {W : World} {B : Nat} {t : T (K M) Int} {p : Option Addr} (h : Tr W B t p) : szOf W (.pointer p) = t.size := by
  cases t with
  | nil => obtain rfl : p = none := h; rfl
  | nd k v l r =>
    obtain ⟨b, lp, rp, rfl, _, hh, _⟩ := h
    simp only [szOf, (nd_of hh).c2, T.size]
    omega
theorem look_left {L R : List (K M × Int)} {kv : K M × Int} {i : Int} (h : i < L.length) : look (L ++ kv :: R) i = look L i := by
  unfold look
  split
  · rw [List.getElem?_append_left (by omega)]
  · rfl
theorem look_at {L R : List (K M × Int)} {kv : K M × Int} {i : Int} (h : i = L.length) : look (L ++ kv :: R) i = some kv := by
  unfold look
  rw [if_pos (by omega), h]
  simp
theorem look_right {L R : List (K M × Int)} {kv : K M × Int} {i : Int} (h : (L.length : Int) < i) : look (L ++ kv :: R) i = look R (i - (L.length + 1)) := by
  unfold look
  rw [if_pos (by omega), if_pos (by omega), List.getElem?_append_right (by omega)]
  obtain ⟨j, hj⟩ : ∃ j : Nat, i.toNat - L.length = j + 1 := ⟨i.toNat - L.length - 1, by omega⟩
  rw [hj, List.getElem?_cons_succ]
  congr 1
  omega
theorem look_nil (i : Int) : look ([] : List (K M × Int)) i = none := by unfold look; split <;> rfl

set_option maxRecDepth 100000 in
set_option maxHeartbeats 1000000 in
theorem at_any (B : Nat) (t : T (K M) Int) (p : Option Addr) (i : Int) (hi0 : -9223372036854775808 ≤ i) (hi1 : i ≤ 9223372036854775807) (hs : t.size ≤ 1000000) (W : World) (h : Tr W B t p) :
    Calls Tryz.prog 135 #[.pointer p, (Value.int .i64 (i))] W fun e w' => w' = W ∧ ∃ q, e = .returned (.pointer q) ∧ Found W B (look t.toL i) q := by
  go_enter Tryz.func135, Tryz.ntmps135
  go_wp2_with fail
  go_loopw [0, 1] (fun pv iv w => ∃ (t' : T (K M) Int) (p' : Option Addr) (i' : Int), pv = .pointer p' ∧ iv = .int .i64 i' ∧ w = W ∧ Tr W B t' p' ∧ t'.size ≤ 1000000 ∧ -9223372036854775808 ≤ i' ∧ i' ≤ 9223372036854775807 ∧ look t.toL i = look t'.toL i') (fun pv _ w => szOf w pv)
  case atStart => exact ⟨t, p, i, rfl, rfl, rfl, h, hs, hi0, hi1, rfl⟩
  case round =>
    obtain ⟨t', p', i', rfl, rfl, rfl, ht, hs', hj0, hj1, hlk⟩ := hrel
    have hsz := szOf_tr ht
    cases t' with
    | nil =>
      obtain rfl : p' = none := ht
      go_wp2_with fail
      go_ret
      exact ⟨rfl, none, rfl, by rw [hlk, T.toL, look_nil]; rfl⟩
    | nd k v l r =>
      obtain ⟨b, lp, rp, rfl, hb, hh, hl, hr⟩ := ht
      have hn := nd_of hh
      have HN := Lib.hid hn
      have cl := count_any l lp B wr hl
      have hs2 : l.size + 1 + r.size ≤ 1000000 := hs'
      have szl := szOf_tr hl
      have szr := szOf_tr hr
      have hll := T.len l
      obtain ⟨zl, hzl⟩ : ∃ zl, l.size = zl := ⟨_, rfl⟩
      rw [hzl] at cl szl hll hs2
      obtain ⟨_, _, _, c3, c4⟩ := hn
      have HSZ := Lib.hid hsz
      have HS2 := Lib.hid (And.intro szl szr)
      clear hsz szl szr hh
      have hszn : (T.nd k v l r).size = zl + 1 + r.size := by show l.size + 1 + r.size = _; rw [hzl]
      rcases Int.lt_trichotomy i' (zl : Int) with hlt | heq | hgt
      · go_wp2_with (go_at_call 101; (with_reducible refine cl.mono ?_); rintro e x1 ⟨rfl, rfl⟩)
        rw [hszn] at HSZ
        refine ⟨⟨l, lp, i', rfl, rfl, trivial, hl, by omega, hj0, hj1, by rw [hlk, T.toL, look_left (by omega)]⟩, by rw [HSZ.out, HS2.out.1]; omega⟩
      · go_wp2_with (go_at_call 101; (with_reducible refine cl.mono ?_); rintro e x1 ⟨rfl, rfl⟩)
        go_ret
        exact ⟨rfl, _, rfl, by rw [hlk, T.toL, look_at (by omega)]; exact ⟨b, _, _, _, rfl, hb, HN.out⟩⟩
      · go_wp2_with (go_at_call 101; (with_reducible refine cl.mono ?_); rintro e x1 ⟨rfl, rfl⟩)
        rw [hszn] at HSZ
        refine ⟨⟨r, rp, i' - (zl + 1), rfl, rfl, trivial, hr, by omega, by omega, by omega, by rw [hlk, T.toL, look_right (by omega), hll]⟩, by rw [HSZ.out, HS2.out.2]; omega⟩

set_option maxRecDepth 100000 in
set_option maxHeartbeats 1000000 in
theorem glued_any (B : Nat) (l r : T (K M) Int) (pl pr : Option Addr) (hs : l.size + r.size ≤ 1000000) (W : World) (hB : B ≤ W.heap.size) (h1 : Tr W B l pl) (h2 : Tr W B r pr) :
    Calls Tryz.prog 128 #[.pointer pl, .pointer pr] W (MakesL W B (l.toL ++ r.toL)) := by
  have cl := count_any l pl B W h1
  have cr := count_any r pr B W h2
  by_cases hc : r.size < l.size
  · have hc' : (r.size : Int) < (l.size : Int) := by omega
    have hl0 : l ≠ .nil := by intro e; rw [e] at hc; simp [T.size] at hc
    rcases List.eq_nil_or_concat l.toL with e | ⟨L0, kv, e⟩
    · exact absurd (T.toL_nil e) hl0
    · rw [List.concat_eq_append] at e
      have hlen : l.size = L0.length + 1 := by rw [← T.len, e]; simp
      have hat := at_any B l pl (L0.length : Int) (by omega) (by omega) (by omega) W h1
      rw [e, look_at rfl] at hat
      have hwl := wL_any B l pl W hl0 (by omega) hB h1
      rw [hlen] at cl hc'
      go_enter Tryz.func128, Tryz.ntmps128
      go_wp2_with (first
        | (go_at_call 101; (with_reducible refine cl.mono ?_); rintro e x1 ⟨rfl, rfl⟩)
        | (go_at_call 101; (with_reducible refine cr.mono ?_); rintro e x1 ⟨rfl, rfl⟩)
        | (go_at_call 135; (with_reducible refine hat.mono ?_); rintro e x1 ⟨rfl, q, rfl, b, n, lp, rp, rfl, hb, hn⟩)
        | (go_at_call 136; (with_reducible refine hwl.mono ?_); rintro e x2 ⟨t1, p1, rfl, ht1, hL1, hb1⟩; have bal := balanced_any b kv.1 kv.2 n lp rp t1 r p1 pr B (by have := size_of hL1; rw [List.length_dropLast, T.len] at this; omega) x2 (Nat.le_trans hB hb1.size) (hn.later hb1) ht1 (h2.later hb1))
        | (go_at_call 127; (with_reducible refine bal.mono ?_); clear bal; rintro e x3 ⟨t2, p2, rfl, ht2, hL2, hb2⟩))
      go_ret
      refine ⟨t2, p2, rfl, ht2, ?_, below_on hb1 hb2⟩
      rw [hL2, hL1, e]
      simp
  · have hc' : ¬ (r.size : Int) < (l.size : Int) := by omega
    cases r with
    | nil =>
      obtain rfl : pr = none := h2
      have hl0 : l = .nil := by
        cases l with
        | nil => rfl
        | nd k v a c => exact absurd (by simp [T.size]; omega) hc
      subst hl0
      go_enter Tryz.func128, Tryz.ntmps128
      go_wp2_with (first
        | (go_at_call 101; (with_reducible refine cl.mono ?_); rintro e x1 ⟨rfl, rfl⟩)
        | (go_at_call 101; (with_reducible refine cr.mono ?_); rintro e x1 ⟨rfl, rfl⟩))
      go_ret
      exact ⟨.nil, none, rfl, rfl, rfl, .refl _ _⟩
    | nd k v a c =>
      have hwf := wF_any B (.nd k v a c) pr W (by simp) (by omega) hB h2
      have hat := at_any B (.nd k v a c) pr 0 (by omega) (by omega) (by omega) W h2
      obtain ⟨kv, L1, hL⟩ : ∃ kv L1, (T.nd k v a c).toL = kv :: L1 := by
        cases hq : (T.nd k v a c).toL with
        | nil => simp [T.toL] at hq
        | cons kv L1 => exact ⟨kv, L1, rfl⟩
      have hlk : look (kv :: L1) 0 = some kv := look_at (L := []) rfl
      rw [hL, hlk] at hat
      rw [hL] at hwf
      have hsz : (T.nd k v a c).size = L1.length + 1 := by rw [← T.len, hL]; simp
      rw [hL]
      rw [hsz] at cr hc' hs
      have H2 := Lib.hid h2
      obtain ⟨b0, _, _, rfl, _⟩ := h2
      go_enter Tryz.func128, Tryz.ntmps128
      go_wp2_with (first
        | (go_at_call 101; (with_reducible refine cl.mono ?_); rintro e x1 ⟨rfl, rfl⟩)
        | (go_at_call 101; (with_reducible refine cr.mono ?_); rintro e x1 ⟨rfl, rfl⟩)
        | (go_at_call 135; (with_reducible refine hat.mono ?_); rintro e x1 ⟨rfl, q, rfl, b, n, lp, rp, rfl, hb, hn⟩)
        | (go_at_call 137; (with_reducible refine hwf.mono ?_); rintro e x2 ⟨t1, p1, rfl, ht1, hL1, hb1⟩; have bal := balanced_any b kv.1 kv.2 n lp rp l t1 pl p1 B (by have := size_of hL1; rw [List.tail_cons] at this; omega) x2 (Nat.le_trans hB hb1.size) (hn.later hb1) (h1.later hb1) ht1)
        | (go_at_call 127; (with_reducible refine bal.mono ?_); clear bal; rintro e x3 ⟨t2, p2, rfl, ht2, hL2, hb2⟩))
      go_ret
      refine ⟨t2, p2, rfl, ht2, ?_, below_on hb1 hb2⟩
      rw [hL2, hL1]
      rfl
end Go.Proofs.YtffpmmphpdkkbaaGreat.Co.S
namespace Go.Proofs.YtffpmmphpdkkbaaGreat.Co.S
open Go Go.RowKit Go.Proofs Go.Proofs.YtffpmmphpdkkbaaGreat Go.Proofs.YtffpmmphpdkkbaaGreat.Co
variable {M : Nat}

/-- What compare answers, wherever what it reads (below D) is as it was. -/
def Cmp (D : Nat) (W0 : World) (cv : Value) (key : K M → Int) : Prop := ∃ (g : Nat) (lb : Array Value), cv = .func (.func g) #[] lb ∧ (∀ a w, (callFunc g a).run Tryz.prog w = .ok (.enter g a) w) ∧
  ∀ w (a b : K M), Below D W0 w → Calls Tryz.prog g (#[(Value.string (a).1), (Value.string (b).1)] ++ lb) w fun e w' => e = .returned (Value.int .i64 (cmp3 (key a) (key b))) ∧ ∃ q, w' = w.drewN q

set_option maxRecDepth 100000 in
set_option maxHeartbeats 1000000 in
theorem put_any {D : Nat} {W0 : World} {cv : Value} {key : K M → Int} (hc : Cmp D W0 cv key) (B : Nat) (hDB : D ≤ B) (k : K M) (v : Int) :
    ∀ (t : T (K M) Int) (p : Option Addr) (W : World), Srt key t.toL → t.size + 1 ≤ 1000000 → B ≤ W.heap.size → Below D W0 W → Tr W B t p →
      Calls Tryz.prog 116 #[.pointer p, cv, (Value.string (k).1), (Value.int .i64 (v))] W (MakesL W B (insL key k v t.toL))
  | .nil, p, W, _, _, hB, _, h => by
    obtain rfl : p = none := h
    go_enter Tryz.func116, Tryz.ntmps116
    go_wp2_with fail
    go_ret
    exact ⟨.nd k v .nil .nil, _, rfl, tr_new W B hB k v .nil .nil _ rfl none none rfl rfl, rfl, below_alloc W _⟩
  | .nd a u l r, p, W, hso, hs, hB, hD, h => by
    obtain ⟨b, lp, rp, rfl, hb, hh, hl, hr⟩ := h
    have hn := nd_of hh
    obtain ⟨sl, sr, hla, har⟩ := hso.split
    have hs' : l.size + 1 + r.size + 1 ≤ 1000000 := hs
    obtain ⟨g, lb, rfl, hent, hrun⟩ := id hc
    have hcr := hrun W k a hD
    have HN := Lib.hid (And.intro hn (And.intro hl hr))
    obtain ⟨c0, c1, c2, c3, c4⟩ := hn
    have HC := Lib.hid (And.intro c0 (And.intro c1 (And.intro c2 (And.intro c3 c4))))
    have bel1 := fun q => below_drewN W (q + 1)
    by_cases h1 : key k < key a
    · have hneg : cmp3 (key k) (key a) < 0 := cmp3_neg.2 h1
      generalize cmp3 (key k) (key a) = o at hcr hneg
      go_enter Tryz.func116, Tryz.ntmps116
      go_upto_region 5 with ((with_reducible refine hcr.mono ?_); rintro e x1 ⟨rfl, q, rfl⟩)
      have ih := put_any hc B hDB k v l lp (W.drewN (q + 1)) sl (by omega) hB (hD.trans ((bel1 q).mono (Nat.le_trans hDB hB))) (HN.out.2.1.drewN (q + 1))
      have hn0 := HN.out.1.later (below_drewN W q)
      have hnd := HN.out.1.later (bel1 q)
      go_region_held3 (fun w => w.cell? ⟨b, 3, none⟩ = some (.pointer lp) ∧ w.cell? ⟨b, 4, none⟩ = some (.pointer rp)) (first | exact ⟨hn0.c3, hn0.c4⟩ | exact ⟨hnd.c3, hnd.c4⟩ | exact ⟨hn1.c3, hn1.c4⟩ | exact ⟨hn2.c3, hn2.c4⟩) (first
        | (go_at_call 116; (with_reducible refine ih.mono ?_); clear ih; rintro e x1 ⟨t1, p1, rfl, ht1, hL1, hb1⟩; have hb1 := below_on (bel1 q) hb1; have hn1 := HN.out.1.later hb1; have bal := balanced_any b a u _ _ _ t1 r p1 rp B (by have := size_of hL1; rw [insL_len sl, T.len] at this; split at this <;> omega) x1 (Nat.le_trans hB hb1.size) hn1 ht1 (HN.out.2.2.later hb1))
        | (go_at_call 127; (with_reducible refine bal.mono ?_); clear bal; rintro e x2 ⟨t2, p2, rfl, ht2, hL2, hb2⟩; have hb2 := below_on hb1 hb2; have hn2 := HN.out.1.later hb2))
      go_wp2_with fail
      go_ret
      exact ⟨t2, p2, rfl, ht2, by rw [hL2, hL1, T.toL, insL_lt h1], hb2⟩
    · by_cases h2 : key a < key k
      · have hneg : 0 < cmp3 (key k) (key a) := cmp3_pos.2 h2
        generalize cmp3 (key k) (key a) = o at hcr hneg
        go_enter Tryz.func116, Tryz.ntmps116
        go_upto_region 7 with ((with_reducible refine hcr.mono ?_); rintro e x1 ⟨rfl, q, rfl⟩)
        have ih := put_any hc B hDB k v r rp (W.drewN (q + 1)) sr (by omega) hB (hD.trans ((bel1 q).mono (Nat.le_trans hDB hB))) (HN.out.2.2.drewN (q + 1))
        have hn0 := HN.out.1.later (below_drewN W q)
        have hnd := HN.out.1.later (bel1 q)
        go_region_held3 (fun w => w.cell? ⟨b, 3, none⟩ = some (.pointer lp) ∧ w.cell? ⟨b, 4, none⟩ = some (.pointer rp)) (first | exact ⟨hn0.c3, hn0.c4⟩ | exact ⟨hnd.c3, hnd.c4⟩ | exact ⟨hn1.c3, hn1.c4⟩ | exact ⟨hn2.c3, hn2.c4⟩) (first
          | (go_at_call 116; (with_reducible refine ih.mono ?_); clear ih; rintro e x1 ⟨t1, p1, rfl, ht1, hL1, hb1⟩; have hb1 := below_on (bel1 q) hb1; have hn1 := HN.out.1.later hb1; have bal := balanced_any b a u _ _ _ l t1 lp p1 B (by have := size_of hL1; rw [insL_len sr, T.len] at this; split at this <;> omega) x1 (Nat.le_trans hB hb1.size) hn1 (HN.out.2.1.later hb1) ht1)
          | (go_at_call 127; (with_reducible refine bal.mono ?_); clear bal; rintro e x2 ⟨t2, p2, rfl, ht2, hL2, hb2⟩; have hb2 := below_on hb1 hb2; have hn2 := HN.out.1.later hb2))
        go_wp2_with fail
        go_ret
        exact ⟨t2, p2, rfl, ht2, by rw [hL2, hL1, T.toL, insL_gt (fun p hp => by have := hla p hp; show key p.1 < key k; omega), insL, if_neg (by omega), if_pos h2], hb2⟩
      · have he : key a = key k := by omega
        have hneg : cmp3 (key k) (key a) = 0 := cmp3_zero.2 he.symm
        rw [hneg] at hcr
        go_enter Tryz.func116, Tryz.ntmps116
        go_upto_region 8 with ((with_reducible refine hcr.mono ?_); rintro e x1 ⟨rfl, q, rfl⟩)
        have hn0 := HN.out.1.later (below_drewN W q)
        have hn1 := fun o => (HN.out.1.later (bel1 q)).later (below_alloc (W.drewN (q + 1)) o)
        have hn2 := fun o => HN.out.1.later ((below_alloc W o))
        have hn3 := fun o => (HN.out.1.later (below_drewN W q)).later (below_alloc (W.drewN q) o)
        go_region_held3 (fun w => w.cell? ⟨b, 0, none⟩ = some (Value.string (a).1) ∧ w.cell? ⟨b, 2, none⟩ = some (Value.int .i64 (((l.size + 1 + r.size : Nat) : Int))) ∧ w.cell? ⟨b, 3, none⟩ = some (.pointer lp) ∧ w.cell? ⟨b, 4, none⟩ = some (.pointer rp)) (first | exact ⟨hn0.c0, hn0.c2, hn0.c3, hn0.c4⟩ | exact ⟨(hn1 _).c0, (hn1 _).c2, (hn1 _).c3, (hn1 _).c4⟩ | exact ⟨(hn2 _).c0, (hn2 _).c2, (hn2 _).c3, (hn2 _).c4⟩ | exact ⟨(hn3 _).c0, (hn3 _).c2, (hn3 _).c3, (hn3 _).c4⟩) (fail)
        go_wp2_with fail
        go_ret
        exact ⟨.nd a v l r, some ⟨W.heap.size, 0, none⟩, rfl, tr_new (W.drewN (q + 1)) B hB a v l r _ (by omega) lp rp (HN.out.2.1.drewN (q + 1)) (HN.out.2.2.drewN (q + 1)), by
          show l.toL ++ (a, v) :: r.toL = insL key k v (l.toL ++ (a, u) :: r.toL)
          rw [insL_gt (fun p hp => by have := hla p hp; show key p.1 < key k; omega), insL_eq he], below_on (bel1 q) (below_alloc (W.drewN (q + 1)) _)⟩
end Go.Proofs.YtffpmmphpdkkbaaGreat.Co.S
namespace Go.Proofs.YtffpmmphpdkkbaaGreat.Co.S
open Go Go.RowKit Go.Proofs Go.Proofs.YtffpmmphpdkkbaaGreat Go.Proofs.YtffpmmphpdkkbaaGreat.Co
variable {M : Nat}

set_option maxRecDepth 100000 in
set_option maxHeartbeats 1000000 in
theorem without_any {D : Nat} {W0 : World} {cv : Value} {key : K M → Int} (B : Nat) (hDB : D ≤ B) (k : K M) :
    ∀ (t : T (K M) Int) (p : Option Addr) (W : World), (t = .nil ∨ Cmp D W0 cv key) → Srt key t.toL → t.size ≤ 1000000 → B ≤ W.heap.size → Below D W0 W → Tr W B t p →
      Calls Tryz.prog 118 #[.pointer p, cv, (Value.string (k).1)] W (MakesL W B (delL key k t.toL))
  | .nil, p, W, _, _, _, _, _, h => by
    obtain rfl : p = none := h
    go_enter Tryz.func118, Tryz.ntmps118
    go_wp2_with fail
    go_ret
    exact ⟨.nil, none, rfl, rfl, rfl, .refl _ _⟩
  | .nd a u l r, p, W, hcc, hso, hs, hB, hD, h => by
    obtain ⟨b, lp, rp, rfl, hb, hh, hl, hr⟩ := h
    have hn := nd_of hh
    obtain ⟨sl, sr, hla, har⟩ := hso.split
    have hs' : l.size + 1 + r.size ≤ 1000000 := hs
    have hc := hcc.resolve_left (fun e => by cases e)
    obtain ⟨g, lb, rfl, hent, hrun⟩ := id hc
    have hcr := hrun W k a hD
    have HN := Lib.hid (And.intro hn (And.intro hl hr))
    obtain ⟨c0, c1, c2, c3, c4⟩ := hn
    have HC := Lib.hid (And.intro c0 (And.intro c1 (And.intro c2 (And.intro c3 c4))))
    have bel1 := fun q => below_drewN W (q + 1)
    by_cases h1 : key k < key a
    · have hneg : cmp3 (key k) (key a) < 0 := cmp3_neg.2 h1
      generalize cmp3 (key k) (key a) = o at hcr hneg
      go_enter Tryz.func118, Tryz.ntmps118
      go_upto_region 5 with ((with_reducible refine hcr.mono ?_); rintro e x1 ⟨rfl, q, rfl⟩)
      have ih := without_any B hDB k l lp (W.drewN (q + 1)) (.inr hc) sl (by omega) hB (hD.trans ((bel1 q).mono (Nat.le_trans hDB hB))) (HN.out.2.1.drewN (q + 1))
      have hn0 := HN.out.1.later (below_drewN W q)
      have hnd := HN.out.1.later (bel1 q)
      go_region_held3 (fun w => w.cell? ⟨b, 3, none⟩ = some (.pointer lp) ∧ w.cell? ⟨b, 4, none⟩ = some (.pointer rp)) (first | exact ⟨hn0.c3, hn0.c4⟩ | exact ⟨hnd.c3, hnd.c4⟩ | exact ⟨hn1.c3, hn1.c4⟩ | exact ⟨hn2.c3, hn2.c4⟩) (first
        | (go_at_call 118; (with_reducible refine ih.mono ?_); clear ih; rintro e x1 ⟨t1, p1, rfl, ht1, hL1, hb1⟩; have hb1 := below_on (bel1 q) hb1; have hn1 := HN.out.1.later hb1; have bal := balanced_any b a u _ _ _ t1 r p1 rp B (by have := size_of hL1; have h3 := delL_len (key := key) (k := k) (L := l.toL); rw [T.len] at h3; omega) x1 (Nat.le_trans hB hb1.size) hn1 ht1 (HN.out.2.2.later hb1))
        | (go_at_call 127; (with_reducible refine bal.mono ?_); clear bal; rintro e x2 ⟨t2, p2, rfl, ht2, hL2, hb2⟩; have hb2 := below_on hb1 hb2; have hn2 := HN.out.1.later hb2))
      go_wp2_with fail
      go_ret
      exact ⟨t2, p2, rfl, ht2, by rw [hL2, hL1, T.toL, delL_lt h1 har], hb2⟩
    · by_cases h2 : key a < key k
      · have hneg : 0 < cmp3 (key k) (key a) := cmp3_pos.2 h2
        generalize cmp3 (key k) (key a) = o at hcr hneg
        go_enter Tryz.func118, Tryz.ntmps118
        go_upto_region 7 with ((with_reducible refine hcr.mono ?_); rintro e x1 ⟨rfl, q, rfl⟩)
        have ih := without_any B hDB k r rp (W.drewN (q + 1)) (.inr hc) sr (by omega) hB (hD.trans ((bel1 q).mono (Nat.le_trans hDB hB))) (HN.out.2.2.drewN (q + 1))
        have hn0 := HN.out.1.later (below_drewN W q)
        have hnd := HN.out.1.later (bel1 q)
        go_region_held3 (fun w => w.cell? ⟨b, 3, none⟩ = some (.pointer lp) ∧ w.cell? ⟨b, 4, none⟩ = some (.pointer rp)) (first | exact ⟨hn0.c3, hn0.c4⟩ | exact ⟨hnd.c3, hnd.c4⟩ | exact ⟨hn1.c3, hn1.c4⟩ | exact ⟨hn2.c3, hn2.c4⟩) (first
          | (go_at_call 118; (with_reducible refine ih.mono ?_); clear ih; rintro e x1 ⟨t1, p1, rfl, ht1, hL1, hb1⟩; have hb1 := below_on (bel1 q) hb1; have hn1 := HN.out.1.later hb1; have bal := balanced_any b a u _ _ _ l t1 lp p1 B (by have := size_of hL1; have h3 := delL_len (key := key) (k := k) (L := r.toL); rw [T.len] at h3; omega) x1 (Nat.le_trans hB hb1.size) hn1 (HN.out.2.1.later hb1) ht1)
          | (go_at_call 127; (with_reducible refine bal.mono ?_); clear bal; rintro e x2 ⟨t2, p2, rfl, ht2, hL2, hb2⟩; have hb2 := below_on hb1 hb2; have hn2 := HN.out.1.later hb2))
        go_wp2_with fail
        go_ret
        exact ⟨t2, p2, rfl, ht2, by rw [hL2, hL1, T.toL, delL_gt (fun p hp => by have := hla p hp; show key p.1 < key k; omega), delL, if_neg (by omega)], hb2⟩
      · have he : key a = key k := by omega
        have hneg : cmp3 (key k) (key a) = 0 := cmp3_zero.2 he.symm
        rw [hneg] at hcr
        go_enter Tryz.func118, Tryz.ntmps118
        go_upto_region 8 with ((with_reducible refine hcr.mono ?_); rintro e x1 ⟨rfl, q, rfl⟩)
        have glu := glued_any B l r lp rp (by omega) (W.drewN (q + 1)) hB (HN.out.2.1.drewN (q + 1)) (HN.out.2.2.drewN (q + 1))
        have hn0 := HN.out.1.later (below_drewN W q)
        have hnd := HN.out.1.later (bel1 q)
        go_region_held3 (fun w => w.cell? ⟨b, 3, none⟩ = some (.pointer lp) ∧ w.cell? ⟨b, 4, none⟩ = some (.pointer rp)) (first | exact ⟨hn0.c3, hn0.c4⟩ | exact ⟨hnd.c3, hnd.c4⟩ | exact ⟨hn1.c3, hn1.c4⟩) (first
          | (go_at_call 128; (with_reducible refine glu.mono ?_); clear glu; rintro e x1 ⟨t1, p1, rfl, ht1, hL1, hb1⟩; have hb1 := below_on (bel1 q) hb1; have hn1 := HN.out.1.later hb1))
        go_wp2_with fail
        go_ret
        exact ⟨t1, p1, rfl, ht1, by rw [hL1, T.toL, delL_gt (fun p hp => by have := hla p hp; show key p.1 < key k; omega), delL_eq he], hb1⟩

/-- The pointer that is told: a node of that value, or none. -/
def Has (M : Nat) (W : World) (B : Nat) : Option Int → Option Addr → Prop
  | none, q => q = none
  | some u, q => ∃ (b : Nat) (a : K M) (n : Int) (lp rp : Option Addr), q = some ⟨b, 0, none⟩ ∧ B ≤ b ∧ Nd W b a u n lp rp

set_option maxRecDepth 100000 in
set_option maxHeartbeats 1000000 in
theorem find_any {D : Nat} {W0 : World} {cv : Value} {key : K M → Int} (B : Nat) (hDB : D ≤ B) (k : K M) (t : T (K M) Int) (p : Option Addr) (W : World) (hcc : t = .nil ∨ Cmp D W0 cv key) (hso : Srt key t.toL) (hs : t.size ≤ 1000000) (hB : B ≤ W.heap.size) (hD : Below D W0 W) (h : Tr W B t p) :
    Calls Tryz.prog 126 #[.pointer p, cv, (Value.string (k).1)] W fun e w' => (∃ q, w' = W.drewN q) ∧ ∃ q, e = .returned (.tuple #[.pointer q, (Value.int .i64 ((below key k t.toL : Int)))]) ∧
      Has M W B (getL key k t.toL) q := by
  go_enter Tryz.func126, Tryz.ntmps126
  go_wp2_with fail
  go_loopw [0, 8] (fun pv iv w => ∃ (t' : T (K M) Int) (p' : Option Addr) (i' : Nat), pv = .pointer p' ∧ iv = .int .i64 (i' : Int) ∧ (∃ q, w = W.drewN q) ∧ Tr W B t' p' ∧ Srt key t'.toL ∧ i' + t'.size ≤ 1000000 ∧ below key k t.toL = i' + below key k t'.toL ∧ getL key k t.toL = getL key k t'.toL ∧ (t = .nil → t' = .nil)) (fun pv _ w => szOf w pv)
  case atStart => exact ⟨t, p, 0, rfl, rfl, ⟨0, rfl⟩, h, hso, by omega, by omega, rfl, id⟩
  case round =>
    obtain ⟨t', p', i', rfl, rfl, ⟨q0, rfl⟩, ht, hso', hs', hbe, hge, hz⟩ := hrel
    have hsz := szOf_tr (ht.drewN q0)
    cases t' with
    | nil =>
      obtain rfl : p' = none := ht
      go_wp2_with fail
      go_ret2
      refine ⟨⟨q0, rfl⟩, none, by first | (rw [hbe]; simp [T.toL, below]) | simp [T.toL, below], ?_⟩
      first | (rw [hge]; rfl) | rfl
    | nd a u l r =>
      obtain ⟨b, lp, rp, rfl, hb, hh, hl, hr⟩ := ht
      have hn := nd_of hh
      obtain ⟨sl, sr, hla, har⟩ := hso'.split
      have HN := Lib.hid hn
      have cl := fun q => count_any l lp B (W.drewN q) (hl.drewN q)
      have hs2 : i' + (l.size + 1 + r.size) ≤ 1000000 := hs'
      have szl := fun q => szOf_tr (hl.drewN q)
      have szr := fun q => szOf_tr (hr.drewN q)
      have hll := T.len l
      have hnn : t ≠ .nil := fun e => by have := hz e; cases this
      have hc := hcc.resolve_left hnn
      obtain ⟨g, lb, rfl, hent, hrun⟩ := id hc
      have hcr := hrun (W.drewN q0) k a (hD.trans ((below_drewN W q0).mono (Nat.le_trans hDB hB)))
      have HSZ := Lib.hid (And.intro hsz (And.intro szl szr))
      have hszn : (T.nd a u l r).size = l.size + 1 + r.size := rfl
      obtain ⟨zl, hzl⟩ : ∃ zl, l.size = zl := ⟨_, rfl⟩
      rw [hzl] at cl hll hs2
      have c0 := fun q => (hn.later (below_drewN W q)).c0
      have c3 := fun q => (hn.later (below_drewN W q)).c3
      have c4 := fun q => (hn.later (below_drewN W q)).c4
      clear hn hsz szl szr hh
      by_cases h1 : key k < key a
      · have hneg : cmp3 (key k) (key a) < 0 := cmp3_neg.2 h1
        generalize cmp3 (key k) (key a) = o at hcr hneg
        go_wp2_with (first
          | (go_at_call 101; (with_reducible refine (cl _).mono ?_); rintro e x2 ⟨rfl, rfl⟩)
          | ((with_reducible refine hcr.mono ?_); rintro e x1 ⟨rfl, q, rfl⟩))
        rw [hszn] at HSZ
        exact ⟨⟨l, lp, i', rfl, rfl, ⟨_, rfl⟩, hl, sl, by omega, by rw [hbe, T.toL, below_lt (by omega)], by rw [hge, T.toL, getL_lt h1 har], fun e => absurd e hnn⟩, by rw [HSZ.out.1, HSZ.out.2.1]; omega⟩
      · by_cases h2 : key a < key k
        · have hneg : 0 < cmp3 (key k) (key a) := cmp3_pos.2 h2
          generalize cmp3 (key k) (key a) = o at hcr hneg
          go_wp2_with (first
            | (go_at_call 101; (with_reducible refine (cl _).mono ?_); rintro e x2 ⟨rfl, rfl⟩)
            | ((with_reducible refine hcr.mono ?_); rintro e x1 ⟨rfl, q, rfl⟩))
          rw [hszn] at HSZ
          exact ⟨⟨r, rp, i' + zl + 1, rfl, rfl, ⟨_, rfl⟩, hr, sr, by omega, by rw [hbe, T.toL, below_gt (fun p hp => by have := hla p hp; show key p.1 < key k; omega), below, if_pos h2, hll]; omega, by rw [hge, T.toL, getL_gt (fun p hp => by have := hla p hp; show key p.1 < key k; omega), getL, if_neg (by omega)], fun e => absurd e hnn⟩, by rw [HSZ.out.1, HSZ.out.2.2]; omega⟩
        · have he : key a = key k := by omega
          have hneg : cmp3 (key k) (key a) = 0 := cmp3_zero.2 he.symm
          rw [hneg] at hcr
          go_wp2_with (first
            | (go_at_call 101; (with_reducible refine (cl _).mono ?_); rintro e x2 ⟨rfl, rfl⟩)
            | ((with_reducible refine hcr.mono ?_); rintro e x1 ⟨rfl, q, rfl⟩))
          go_ret2
          refine ⟨⟨_, rfl⟩, some ⟨b, 0, none⟩, ?_, ?_⟩
          · rw [hbe, T.toL, below_gt (fun p hp => by have := hla p hp; show key p.1 < key k; omega), below, if_neg (by omega), hll]; rfl
          · rw [hge, T.toL, getL_gt (fun p hp => by have := hla p hp; show key p.1 < key k; omega), getL_eq he]; exact ⟨b, a, _, lp, rp, rfl, hb, HN.out⟩
end Go.Proofs.YtffpmmphpdkkbaaGreat.Co.S
namespace Go.Proofs.YtffpmmphpdkkbaaGreat.Co.S
open Go Go.RowKit Go.Shelf Go.Proofs Go.Proofs.YtffpmmphpdkkbaaGreat Go.Proofs.YtffpmmphpdkkbaaGreat.Co
variable {M : Nat}

attribute [local go_sem] eql44n eql44f

/-- A block that may turn: no node, none of a form. -/
def mtT (ty : TypeId) : Bool := ty == 126 || ty == 53 || ty == 80 || ty == 3 || ty == 37 || ty == 88 || ty == 90 || ty == 22 || ty == 35
def Ty (W : World) (mb : Nat) : Prop := ∃ cs ty, W.heap[mb]? = some (.cells cs ty) ∧ mtT ty = true
theorem Ty.of {W W' : World} {mb : Nat} (h : Ty W mb) (hb : W'.heap[mb]? = W.heap[mb]?) : Ty W' mb := by
  obtain ⟨cs, ty, h1, h2⟩ := h
  exact ⟨cs, ty, hb.trans h1, h2⟩
theorem Ty.set {W : World} {mb : Nat} (h : Ty W mb) (j : Nat) (v : Value) : Ty (W.setCell ⟨mb, j, none⟩ v) mb := by
  obtain ⟨cs, ty, h1, h2⟩ := h
  exact ⟨_, ty, heap_setCell_same W mb j cs ty v h1, h2⟩
/-- A map in memory: mb its block; D: below it lies what compare reads. -/
structure Mp (D : Nat) (W0 : World) (cv : Value) (key : K M → Int) (mb : Nat) (L : List (K M × Int)) (W : World) : Prop where
  dm : D ≤ mb
  c0 : W.cell? ⟨mb, 2, none⟩ = some (cv)
  rt : ∃ t p, W.cell? ⟨mb, 3, none⟩ = some (.pointer p) ∧ Tr W (mb + 1) t p ∧ t.toL = L
  fz : ∀ j, W.frozen? ⟨mb, j, none⟩ = false
  srt : Srt key L
  bel : Below D W0 W
  ty : Ty W mb
theorem Mp.lt {D : Nat} {W0 : World} {cv : Value} {key : K M → Int} {mb : Nat} {L : List (K M × Int)} {W : World} (h : Mp D W0 cv key mb L W) : mb < W.heap.size := World.block_lt_of_cell? W ⟨mb, 2, none⟩ h.c0
theorem Mp.later {D : Nat} {W0 : World} {cv : Value} {key : K M → Int} {mb : Nat} {L : List (K M × Int)} {W W' : World} (h : Mp D W0 cv key mb L W) (hb : Below W.heap.size W W') : Mp D W0 cv key mb L W' := by
  have hbl := hb.block mb h.lt
  obtain ⟨t, p, h1, h2, h3⟩ := h.rt
  exact ⟨h.dm, (World.cell?_of_block (w := W) hbl).trans h.c0, ⟨t, p, (World.cell?_of_block (w := W) hbl).trans h1, h2.later hb, h3⟩, fun j => (World.frozen?_of_block (w := W) hbl).trans (h.fz j), h.srt, h.bel.trans (hb.mono (by have := h.lt; have := h.dm; omega)), h.ty.of hbl⟩

set_option maxHeartbeats 1000000 in
theorem new_any (g : Nat) (lb : Array Value) (W : World) : Calls Tryz.prog 98 #[(.func (.func g) #[] lb)] W fun e w' =>
    e = .returned (Value.pointer (some ⟨W.heap.size, 0, none⟩)) ∧ w'.cell? ⟨W.heap.size, 0, none⟩ = some (.func (.func g) #[] lb) ∧ w'.cell? ⟨W.heap.size, 1, none⟩ = some (.pointer none) ∧ Below W.heap.size W w' := by
  go_enter Tryz.func98, Tryz.ntmps98
  go_wp2
  go_ret
  have hh := heap_alloc_new W (.cells #[(.func (.func g) #[] lb), .pointer none] 122)
  exact ⟨rfl, nd_cell hh 0, nd_cell hh 1, below_alloc W _⟩
/-- At most mb has turned of what was there, and in mb at most the map. -/
structure Chm (mb : Nat) (W W' : World) : Prop where
  chg : Chg (fun b => b = mb) W W'
  keep : ∀ j, j ≠ 2 → j ≠ 3 → W'.cell? ⟨mb, j, none⟩ = W.cell? ⟨mb, j, none⟩
theorem Chm.trans {mb : Nat} {A B C : World} (h : Chm mb A B) (k : Chm mb B C) : Chm mb A C := ⟨h.chg.trans k.chg (fun _ _ x => x) (fun _ _ x => x), fun j h2 h3 => (k.keep j h2 h3).trans (h.keep j h2 h3)⟩
theorem Chm.of_below {mb : Nat} {A B : World} (hlt : mb < A.heap.size) (h : Below A.heap.size A B) : Chm mb A B := ⟨Chg.of_below h, fun _ _ _ => World.cell?_of_block (w := A) (h.block mb hlt)⟩

theorem putD_any (w : World) : CallsD Tryz.prog 115 #[] .returning w fun e u' w' => e = .returned (.tuple #[]) ∧ u' = .returning ∧ w' = w := by
  refine callsD_of_wpS Tryz.func115 rfl fun c₀ cs hu => ?_
  apply wpS_region
  cases c₀
  simp_all [wpOpsS, go_sem, recoverD, Tryz.ntmps115, bodyPostS, results, Tryz.results115]
theorem delD_any (w : World) : CallsD Tryz.prog 117 #[] .returning w fun e u' w' => e = .returned (.tuple #[]) ∧ u' = .returning ∧ w' = w := by
  refine callsD_of_wpS Tryz.func117 rfl fun c₀ cs hu => ?_
  apply wpS_region
  cases c₀
  simp_all [wpOpsS, go_sem, recoverD, Tryz.ntmps117, bodyPostS, results, Tryz.results117]
theorem getD_any (w : World) : CallsD Tryz.prog 113 #[] .returning w fun e u' w' => e = .returned (.tuple #[]) ∧ u' = .returning ∧ w' = w := by
  refine callsD_of_wpS Tryz.func113 rfl fun c₀ cs hu => ?_
  apply wpS_region
  cases c₀
  simp_all [wpOpsS, go_sem, recoverD, Tryz.ntmps113, bodyPostS, results, Tryz.results113]
/-- The new root is laid. -/
def Laid (mb : Nat) (L : List (K M × Int)) (W W' : World) : Prop := ∃ t p, W'.cell? ⟨mb, 3, none⟩ = some (.pointer p) ∧ Tr W' (mb + 1) t p ∧ t.toL = L ∧ Chm mb W W' ∧ Ty W' mb
theorem laid_of {mb : Nat} {L : List (K M × Int)} {W x : World} {t : T (K M) Int} {p q : Option Addr} (hty : Ty W mb) (hb : Below W.heap.size W x) (hc : x.cell? ⟨mb, 3, none⟩ = some (.pointer q)) (ht : Tr x (mb + 1) t p) (hL : t.toL = L) :
    Laid mb L W (x.setCell ⟨mb, 3, none⟩ (.pointer p)) := by
  have hlt : mb < W.heap.size := by obtain ⟨_, _, h1, _⟩ := hty; exact lt_of_heap h1
  refine ⟨t, p, World.cell?_setCell_same _ _ _ hc, Tr.of (fun b h1 _ => Below.heap_setCell _ _ _ b (by intro e; simp at e; omega)) ht, hL, ⟨(Chg.of_below (S := fun b => b = mb) hb).setCell (fun _ => rfl) _, fun j _ hj => ?_⟩, (hty.of (hb.block mb hlt)).set 3 _⟩
  rw [World.cell?_setCell_other _ _ _ _ (fun e => hj (by cases e; rfl))]
  exact World.cell?_of_block (w := W) (hb.block mb hlt)
theorem Laid.mp {D : Nat} {W0 : World} {cv : Value} {key : K M → Int} {mb : Nat} {L L' : List (K M × Int)} {W W' : World} (h : Mp D W0 cv key mb L W) (hl : Laid mb L' W W') (hs : Srt key L') (hf : ∀ j, W'.frozen? ⟨mb, j, none⟩ = false)
    (h0 : W'.cell? ⟨mb, 2, none⟩ = some (cv)) : Mp D W0 cv key mb L' W' := by
  obtain ⟨t, p, h1, h2, h3, h4, h5⟩ := hl
  refine ⟨h.dm, h0, ⟨t, p, h1, h2, h3⟩, hf, hs, h.bel.trans (h4.chg.below (by have := h.lt; have := h.dm; omega) (fun b hb e => by have := h.dm; omega)), h5⟩

set_option maxRecDepth 100000 in
set_option maxHeartbeats 1000000 in
theorem Put_any {D : Nat} {W0 : World} {cv : Value} {key : K M → Int} (hc : Cmp D W0 cv key) (mb : Nat) (L : List (K M × Int)) (k : K M) (v : Int) (W : World) (hL : L.length + 1 ≤ 1000000) (h : Mp D W0 cv key mb L W) :
    Calls Tryz.prog 96 #[(Value.pointer (some ⟨mb, 2, none⟩)), (Value.string (k).1), (Value.int .i64 (v))] W fun e w' => e = .returned (.bool (getL key k L).isNone) ∧ Mp D W0 cv key mb (insL key k v L) w' ∧ Chm mb W w' := by
  obtain ⟨g, lb, rfl, hent0, hrun⟩ := id hc
  have hlt := h.lt
  obtain ⟨t, p, c1, ht, hl⟩ := h.rt
  have c0 := h.c0
  have fz := h.fz 3
  have FZ := Lib.hid h.fz
  have HTY := Lib.hid h.ty
  have hs : t.size = L.length := size_of hl
  have cn := count_any t p (mb + 1) W ht
  have hso : Srt key t.toL := hl ▸ h.srt
  have pt := fun q => put_any hc (mb + 1) (by have := h.dm; omega) k v t p (W.drewN q) hso (by omega) hlt (h.bel.trans ((below_drewN W q).mono (by have := h.dm; omega))) (ht.drewN q)
  rw [hl] at pt
  go_enter_defers Tryz.func96, Tryz.ntmps96
  go_upto_region 5 with (go_at_call 101; (with_reducible refine cn.mono ?_); rintro e x1 ⟨rfl, hx1⟩; subst x1)
  have hent := enters_of Tryz.func116 (by kernel_rfl) rfl
  go_cut [] from 22 to 35 (fun wx => Hid (Laid mb (insL key k v L) W wx ∧ (∀ j, wx.frozen? ⟨mb, j, none⟩ = false) ∧ wx.cell? ⟨mb, 2, none⟩ = some ((.func (.func g) #[] lb))))
  case first =>
    refine wp_calm ?_
    go_region_law (refine step_call hent [.pointer p, (.func (.func g) #[] lb), (Value.string (k).1), (Value.int .i64 (v))] (by simp [Act.eval]) ?_; refine (pt _).mono ?_; rintro e x2 ⟨t2, p2, rfl, ht2, hL2, hb2⟩; have hW2 := below_on (below_drewN W _) hb2; have cc2 := (World.cell?_of_block (w := W) (hW2.block mb hlt)).trans c1; have cc0 := (World.cell?_of_block (w := W) (hW2.block mb hlt)).trans c0; have ff2 := (World.frozen?_of_block (w := W) (hW2.block mb hlt)).trans fz; have FF2 := Lib.hid (fun j => (World.frozen?_of_block (a := ⟨mb, j, none⟩) (w := W) (hW2.block mb hlt)).trans (FZ.out j)); have HL := Lib.hid (laid_of HTY.out hW2 cc2 ht2 hL2); refine ⟨_, rfl, ?_⟩)
    all_goals (go_wp2_with fail; go_meet; exact Lib.hid ⟨HL.out, fun j => by rw [World.frozen?_setCell]; exact FF2.out j, by rw [World.cell?_setCell_other _ _ _ _ (by simp)]; exact cc0⟩)
  case rest =>
    obtain ⟨hld, hfw, h0w⟩ := hcut.out
    have hmp := hld.mp h h.srt.ins hfw h0w
    obtain ⟨t2, p2, d1, d2, d3, d4, _⟩ := hld
    have cn2 := count_any t2 p2 (mb + 1) wc d2
    have hs2 : t2.size = L.length + (if (getL key k L).isSome then 0 else 1) := by rw [size_of d3, insL_len h.srt]
    rw [hs2] at cn2
    have HF := Lib.hid (And.intro hmp d4)
    clear hmp d4 d2 hcut
    cases hg : getL key k L with
    | none =>
      rw [hg] at cn2
      go_wp2_with (go_at_call 101; (with_reducible refine cn2.mono ?_); rintro e x3 ⟨rfl, hx3⟩; subst x3)
      refine leaves_cons (f := 115) (args := #[]) (by simp) (by simp [go_sem]) ?_
      refine (putD_any _).mono ?_
      rintro e u' w'' ⟨rfl, rfl, rfl⟩
      exact ⟨_, results_tmp rfl _ _ _, by simp [hg]; try omega, HF.out.1, HF.out.2⟩
    | some u =>
      rw [hg] at cn2
      go_wp2_with (go_at_call 101; (with_reducible refine cn2.mono ?_); rintro e x3 ⟨rfl, hx3⟩; subst x3)
      refine leaves_cons (f := 115) (args := #[]) (by simp) (by simp [go_sem]) ?_
      refine (putD_any _).mono ?_
      rintro e u' w'' ⟨rfl, rfl, rfl⟩
      exact ⟨_, results_tmp rfl _ _ _, by simp [hg]; try omega, HF.out.1, HF.out.2⟩
end Go.Proofs.YtffpmmphpdkkbaaGreat.Co.S
