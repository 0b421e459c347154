import Derived.Test.YtglfmbpcapendaaF
namespace Go.Proofs.Ytglfmbpcapendaa.S
open Go Go.RowKit Go.Proofs Go.Proofs.Ytglfmbpcapendaa
variable {M : Nat}

set_option maxRecDepth 100000 in
set_option maxHeartbeats 1000000 in
theorem without_any {D : Nat} {W0 : World} {cv : Value} {key : K M → Int} (B : Nat) (hDB : D ≤ B) (k : K M) :
    ∀ (t : T (K M) Int) (p : Option Addr) (W : World), (t = .nil ∨ Cmp D W0 cv key) → Srt key t.toL → t.size ≤ 1000000 → B ≤ W.heap.size → Below D W0 W → Tr W B t p →
      Calls Try.prog 42 #[.pointer p, cv, (Value.string (k).1)] W (MakesL W B (delL key k t.toL))
  | .nil, p, W, _, _, _, _, _, h => by
    obtain rfl : p = none := h
    go_enter Try.func42, Try.ntmps42
    go_wp2_with fail
    go_ret
    exact ⟨.nil, none, rfl, rfl, rfl, .refl _ _⟩
  | .nd a u l r, p, W, hcc, hso, hs, hB, hD, h => by
    obtain ⟨b, lp, rp, rfl, hb, hh, hl, hr⟩ := h
    have hn := nd_of hh
    obtain ⟨sl, sr, hla, har⟩ := hso.split
    have hs' : l.size + 1 + r.size ≤ 1000000 := hs
    have hc := hcc.resolve_left (fun e => by cases e)
    obtain ⟨g, lb, rfl, hent, hrun⟩ := id hc
    have hcr := hrun W k a hD
    have HN := Lib.hid (And.intro hn (And.intro hl hr))
    obtain ⟨c0, c1, c2, c3, c4⟩ := hn
    have HC := Lib.hid (And.intro c0 (And.intro c1 (And.intro c2 (And.intro c3 c4))))
    have bel1 := fun q => below_drewN W (q + 1)
    by_cases h1 : key k < key a
    · have hneg : cmp3 (key k) (key a) < 0 := cmp3_neg.2 h1
      generalize cmp3 (key k) (key a) = o at hcr hneg
      go_enter Try.func42, Try.ntmps42
      go_upto_region 5 with ((with_reducible refine hcr.mono ?_); rintro e x1 ⟨rfl, q, rfl⟩)
      have ih := without_any B hDB k l lp (W.drewN (q + 1)) (.inr hc) sl (by omega) hB (hD.trans ((bel1 q).mono (Nat.le_trans hDB hB))) (HN.out.2.1.drewN (q + 1))
      have hn0 := HN.out.1.later (below_drewN W q)
      have hnd := HN.out.1.later (bel1 q)
      go_region_held3 (fun w => w.cell? ⟨b, 3, none⟩ = some (.pointer lp) ∧ w.cell? ⟨b, 4, none⟩ = some (.pointer rp)) (first | exact ⟨hn0.c3, hn0.c4⟩ | exact ⟨hnd.c3, hnd.c4⟩ | exact ⟨hn1.c3, hn1.c4⟩ | exact ⟨hn2.c3, hn2.c4⟩) (first
        | (go_at_call 42; (with_reducible refine ih.mono ?_); clear ih; rintro e x1 ⟨t1, p1, rfl, ht1, hL1, hb1⟩; have hb1 := below_on (bel1 q) hb1; have hn1 := HN.out.1.later hb1; have bal := balanced_any b a u _ _ _ t1 r p1 rp B (by have := size_of hL1; have h3 := delL_len (key := key) (k := k) (L := l.toL); rw [T.len] at h3; omega) x1 (Nat.le_trans hB hb1.size) hn1 ht1 (HN.out.2.2.later hb1))
        | (go_at_call 45; (with_reducible refine bal.mono ?_); clear bal; rintro e x2 ⟨t2, p2, rfl, ht2, hL2, hb2⟩; have hb2 := below_on hb1 hb2; have hn2 := HN.out.1.later hb2))
      go_wp2_with fail
      go_ret
      exact ⟨t2, p2, rfl, ht2, by rw [hL2, hL1, T.toL, delL_lt h1 har], hb2⟩
    · by_cases h2 : key a < key k
      · have hneg : 0 < cmp3 (key k) (key a) := cmp3_pos.2 h2
        generalize cmp3 (key k) (key a) = o at hcr hneg
        go_enter Try.func42, Try.ntmps42
        go_upto_region 7 with ((with_reducible refine hcr.mono ?_); rintro e x1 ⟨rfl, q, rfl⟩)
        have ih := without_any B hDB k r rp (W.drewN (q + 1)) (.inr hc) sr (by omega) hB (hD.trans ((bel1 q).mono (Nat.le_trans hDB hB))) (HN.out.2.2.drewN (q + 1))
        have hn0 := HN.out.1.later (below_drewN W q)
        have hnd := HN.out.1.later (bel1 q)
        go_region_held3 (fun w => w.cell? ⟨b, 3, none⟩ = some (.pointer lp) ∧ w.cell? ⟨b, 4, none⟩ = some (.pointer rp)) (first | exact ⟨hn0.c3, hn0.c4⟩ | exact ⟨hnd.c3, hnd.c4⟩ | exact ⟨hn1.c3, hn1.c4⟩ | exact ⟨hn2.c3, hn2.c4⟩) (first
          | (go_at_call 42; (with_reducible refine ih.mono ?_); clear ih; rintro e x1 ⟨t1, p1, rfl, ht1, hL1, hb1⟩; have hb1 := below_on (bel1 q) hb1; have hn1 := HN.out.1.later hb1; have bal := balanced_any b a u _ _ _ l t1 lp p1 B (by have := size_of hL1; have h3 := delL_len (key := key) (k := k) (L := r.toL); rw [T.len] at h3; omega) x1 (Nat.le_trans hB hb1.size) hn1 (HN.out.2.1.later hb1) ht1)
          | (go_at_call 45; (with_reducible refine bal.mono ?_); clear bal; rintro e x2 ⟨t2, p2, rfl, ht2, hL2, hb2⟩; have hb2 := below_on hb1 hb2; have hn2 := HN.out.1.later hb2))
        go_wp2_with fail
        go_ret
        exact ⟨t2, p2, rfl, ht2, by rw [hL2, hL1, T.toL, delL_gt (fun p hp => by have := hla p hp; show key p.1 < key k; omega), delL, if_neg (by omega)], hb2⟩
      · have he : key a = key k := by omega
        have hneg : cmp3 (key k) (key a) = 0 := cmp3_zero.2 he.symm
        rw [hneg] at hcr
        go_enter Try.func42, Try.ntmps42
        go_upto_region 8 with ((with_reducible refine hcr.mono ?_); rintro e x1 ⟨rfl, q, rfl⟩)
        have glu := glued_any B l r lp rp (by omega) (W.drewN (q + 1)) hB (HN.out.2.1.drewN (q + 1)) (HN.out.2.2.drewN (q + 1))
        have hn0 := HN.out.1.later (below_drewN W q)
        have hnd := HN.out.1.later (bel1 q)
        go_region_held3 (fun w => w.cell? ⟨b, 3, none⟩ = some (.pointer lp) ∧ w.cell? ⟨b, 4, none⟩ = some (.pointer rp)) (first | exact ⟨hn0.c3, hn0.c4⟩ | exact ⟨hnd.c3, hnd.c4⟩ | exact ⟨hn1.c3, hn1.c4⟩) (first
          | (go_at_call 46; (with_reducible refine glu.mono ?_); clear glu; rintro e x1 ⟨t1, p1, rfl, ht1, hL1, hb1⟩; have hb1 := below_on (bel1 q) hb1; have hn1 := HN.out.1.later hb1))
        go_wp2_with fail
        go_ret
        exact ⟨t1, p1, rfl, ht1, by rw [hL1, T.toL, delL_gt (fun p hp => by have := hla p hp; show key p.1 < key k; omega), delL_eq he], hb1⟩

/-- The pointer that is told: a node of that value, or none. -/
def Has (M : Nat) (W : World) (B : Nat) : Option Int → Option Addr → Prop
  | none, q => q = none
  | some u, q => ∃ (b : Nat) (a : K M) (n : Int) (lp rp : Option Addr), q = some ⟨b, 0, none⟩ ∧ B ≤ b ∧ Nd W b a u n lp rp

set_option maxRecDepth 100000 in
set_option maxHeartbeats 1000000 in
theorem find_any {D : Nat} {W0 : World} {cv : Value} {key : K M → Int} (B : Nat) (hDB : D ≤ B) (k : K M) (t : T (K M) Int) (p : Option Addr) (W : World) (hcc : t = .nil ∨ Cmp D W0 cv key) (hso : Srt key t.toL) (hs : t.size ≤ 1000000) (hB : B ≤ W.heap.size) (hD : Below D W0 W) (h : Tr W B t p) :
    Calls Try.prog 44 #[.pointer p, cv, (Value.string (k).1)] W fun e w' => (∃ q, w' = W.drewN q) ∧ ∃ q, e = .returned (.tuple #[.pointer q, (Value.int .i64 ((below key k t.toL : Int)))]) ∧
      Has M W B (getL key k t.toL) q := by
  go_enter Try.func44, Try.ntmps44
  go_wp2_with fail
  go_loopw [0, 8] (fun pv iv w => ∃ (t' : T (K M) Int) (p' : Option Addr) (i' : Nat), pv = .pointer p' ∧ iv = .int .i64 (i' : Int) ∧ (∃ q, w = W.drewN q) ∧ Tr W B t' p' ∧ Srt key t'.toL ∧ i' + t'.size ≤ 1000000 ∧ below key k t.toL = i' + below key k t'.toL ∧ getL key k t.toL = getL key k t'.toL ∧ (t = .nil → t' = .nil)) (fun pv _ w => szOf w pv)
  case atStart => exact ⟨t, p, 0, rfl, rfl, ⟨0, rfl⟩, h, hso, by omega, by omega, rfl, id⟩
  case round =>
    obtain ⟨t', p', i', rfl, rfl, ⟨q0, rfl⟩, ht, hso', hs', hbe, hge, hz⟩ := hrel
    have hsz := szOf_tr (ht.drewN q0)
    cases t' with
    | nil =>
      obtain rfl : p' = none := ht
      go_wp2_with fail
      go_ret2
      refine ⟨⟨q0, rfl⟩, none, by first | (rw [hbe]; simp [T.toL, below]) | simp [T.toL, below], ?_⟩
      first | (rw [hge]; rfl) | rfl
    | nd a u l r =>
      obtain ⟨b, lp, rp, rfl, hb, hh, hl, hr⟩ := ht
      have hn := nd_of hh
      obtain ⟨sl, sr, hla, har⟩ := hso'.split
      have HN := Lib.hid hn
      have cl := fun q => count_any l lp B (W.drewN q) (hl.drewN q)
      have hs2 : i' + (l.size + 1 + r.size) ≤ 1000000 := hs'
      have szl := fun q => szOf_tr (hl.drewN q)
      have szr := fun q => szOf_tr (hr.drewN q)
      have hll := T.len l
      have hnn : t ≠ .nil := fun e => by have := hz e; cases this
      have hc := hcc.resolve_left hnn
      obtain ⟨g, lb, rfl, hent, hrun⟩ := id hc
      have hcr := hrun (W.drewN q0) k a (hD.trans ((below_drewN W q0).mono (Nat.le_trans hDB hB)))
      have HSZ := Lib.hid (And.intro hsz (And.intro szl szr))
      have hszn : (T.nd a u l r).size = l.size + 1 + r.size := rfl
      obtain ⟨zl, hzl⟩ : ∃ zl, l.size = zl := ⟨_, rfl⟩
      rw [hzl] at cl hll hs2
      have c0 := fun q => (hn.later (below_drewN W q)).c0
      have c3 := fun q => (hn.later (below_drewN W q)).c3
      have c4 := fun q => (hn.later (below_drewN W q)).c4
      clear hn hsz szl szr hh
      by_cases h1 : key k < key a
      · have hneg : cmp3 (key k) (key a) < 0 := cmp3_neg.2 h1
        generalize cmp3 (key k) (key a) = o at hcr hneg
        go_wp2_with (first
          | (go_at_call 35; (with_reducible refine (cl _).mono ?_); rintro e x2 ⟨rfl, rfl⟩)
          | ((with_reducible refine hcr.mono ?_); rintro e x1 ⟨rfl, q, rfl⟩))
        rw [hszn] at HSZ
        exact ⟨⟨l, lp, i', rfl, rfl, ⟨_, rfl⟩, hl, sl, by omega, by rw [hbe, T.toL, below_lt (by omega)], by rw [hge, T.toL, getL_lt h1 har], fun e => absurd e hnn⟩, by rw [HSZ.out.1, HSZ.out.2.1]; omega⟩
      · by_cases h2 : key a < key k
        · have hneg : 0 < cmp3 (key k) (key a) := cmp3_pos.2 h2
          generalize cmp3 (key k) (key a) = o at hcr hneg
          go_wp2_with (first
            | (go_at_call 35; (with_reducible refine (cl _).mono ?_); rintro e x2 ⟨rfl, rfl⟩)
            | ((with_reducible refine hcr.mono ?_); rintro e x1 ⟨rfl, q, rfl⟩))
          rw [hszn] at HSZ
          exact ⟨⟨r, rp, i' + zl + 1, rfl, rfl, ⟨_, rfl⟩, hr, sr, by omega, by rw [hbe, T.toL, below_gt (fun p hp => by have := hla p hp; show key p.1 < key k; omega), below, if_pos h2, hll]; omega, by rw [hge, T.toL, getL_gt (fun p hp => by have := hla p hp; show key p.1 < key k; omega), getL, if_neg (by omega)], fun e => absurd e hnn⟩, by rw [HSZ.out.1, HSZ.out.2.2]; omega⟩
        · have he : key a = key k := by omega
          have hneg : cmp3 (key k) (key a) = 0 := cmp3_zero.2 he.symm
          rw [hneg] at hcr
          go_wp2_with (first
            | (go_at_call 35; (with_reducible refine (cl _).mono ?_); rintro e x2 ⟨rfl, rfl⟩)
            | ((with_reducible refine hcr.mono ?_); rintro e x1 ⟨rfl, q, rfl⟩))
          go_ret2
          refine ⟨⟨_, rfl⟩, some ⟨b, 0, none⟩, ?_, ?_⟩
          · rw [hbe, T.toL, below_gt (fun p hp => by have := hla p hp; show key p.1 < key k; omega), below, if_neg (by omega), hll]; rfl
          · rw [hge, T.toL, getL_gt (fun p hp => by have := hla p hp; show key p.1 < key k; omega), getL_eq he]; exact ⟨b, a, _, lp, rp, rfl, hb, HN.out⟩
end Go.Proofs.Ytglfmbpcapendaa.S
