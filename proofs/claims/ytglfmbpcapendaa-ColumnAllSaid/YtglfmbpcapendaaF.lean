import Derived.Test.YtglfmbpcapendaaE
namespace Go.Proofs.Ytglfmbpcapendaa.S
open Go Go.RowKit Go.Proofs Go.Proofs.Ytglfmbpcapendaa
variable {M : Nat}

/-- What compare answers, wherever what it reads (below D) is as it was. -/
def Cmp (D : Nat) (W0 : World) (cv : Value) (key : K M → Int) : Prop := ∃ (g : Nat) (lb : Array Value), cv = .func (.func g) #[] lb ∧ (∀ a w, (callFunc g a).run Try.prog w = .ok (.enter g a) w) ∧
  ∀ w (a b : K M), Below D W0 w → Calls Try.prog g (#[(Value.string (a).1), (Value.string (b).1)] ++ lb) w fun e w' => e = .returned (Value.int .i64 (cmp3 (key a) (key b))) ∧ ∃ q, w' = w.drewN q

set_option maxRecDepth 100000 in
set_option maxHeartbeats 1000000 in
theorem put_any {D : Nat} {W0 : World} {cv : Value} {key : K M → Int} (hc : Cmp D W0 cv key) (B : Nat) (hDB : D ≤ B) (k : K M) (v : Int) :
    ∀ (t : T (K M) Int) (p : Option Addr) (W : World), Srt key t.toL → t.size + 1 ≤ 1000000 → B ≤ W.heap.size → Below D W0 W → Tr W B t p →
      Calls Try.prog 40 #[.pointer p, cv, (Value.string (k).1), (Value.int .i64 (v))] W (MakesL W B (insL key k v t.toL))
  | .nil, p, W, _, _, hB, _, h => by
    obtain rfl : p = none := h
    go_enter Try.func40, Try.ntmps40
    go_wp2_with fail
    go_ret
    exact ⟨.nd k v .nil .nil, _, rfl, tr_new W B hB k v .nil .nil _ rfl none none rfl rfl, rfl, below_alloc W _⟩
  | .nd a u l r, p, W, hso, hs, hB, hD, h => by
    obtain ⟨b, lp, rp, rfl, hb, hh, hl, hr⟩ := h
    have hn := nd_of hh
    obtain ⟨sl, sr, hla, har⟩ := hso.split
    have hs' : l.size + 1 + r.size + 1 ≤ 1000000 := hs
    obtain ⟨g, lb, rfl, hent, hrun⟩ := id hc
    have hcr := hrun W k a hD
    have HN := Lib.hid (And.intro hn (And.intro hl hr))
    obtain ⟨c0, c1, c2, c3, c4⟩ := hn
    have HC := Lib.hid (And.intro c0 (And.intro c1 (And.intro c2 (And.intro c3 c4))))
    have bel1 := fun q => below_drewN W (q + 1)
    by_cases h1 : key k < key a
    · have hneg : cmp3 (key k) (key a) < 0 := cmp3_neg.2 h1
      generalize cmp3 (key k) (key a) = o at hcr hneg
      go_enter Try.func40, Try.ntmps40
      go_upto_region 5 with ((with_reducible refine hcr.mono ?_); rintro e x1 ⟨rfl, q, rfl⟩)
      have ih := put_any hc B hDB k v l lp (W.drewN (q + 1)) sl (by omega) hB (hD.trans ((bel1 q).mono (Nat.le_trans hDB hB))) (HN.out.2.1.drewN (q + 1))
      have hn0 := HN.out.1.later (below_drewN W q)
      have hnd := HN.out.1.later (bel1 q)
      go_region_held3 (fun w => w.cell? ⟨b, 3, none⟩ = some (.pointer lp) ∧ w.cell? ⟨b, 4, none⟩ = some (.pointer rp)) (first | exact ⟨hn0.c3, hn0.c4⟩ | exact ⟨hnd.c3, hnd.c4⟩ | exact ⟨hn1.c3, hn1.c4⟩ | exact ⟨hn2.c3, hn2.c4⟩) (first
        | (go_at_call 40; (with_reducible refine ih.mono ?_); clear ih; rintro e x1 ⟨t1, p1, rfl, ht1, hL1, hb1⟩; have hb1 := below_on (bel1 q) hb1; have hn1 := HN.out.1.later hb1; have bal := balanced_any b a u _ _ _ t1 r p1 rp B (by have := size_of hL1; rw [insL_len sl, T.len] at this; split at this <;> omega) x1 (Nat.le_trans hB hb1.size) hn1 ht1 (HN.out.2.2.later hb1))
        | (go_at_call 45; (with_reducible refine bal.mono ?_); clear bal; rintro e x2 ⟨t2, p2, rfl, ht2, hL2, hb2⟩; have hb2 := below_on hb1 hb2; have hn2 := HN.out.1.later hb2))
      go_wp2_with fail
      go_ret
      exact ⟨t2, p2, rfl, ht2, by rw [hL2, hL1, T.toL, insL_lt h1], hb2⟩
    · by_cases h2 : key a < key k
      · have hneg : 0 < cmp3 (key k) (key a) := cmp3_pos.2 h2
        generalize cmp3 (key k) (key a) = o at hcr hneg
        go_enter Try.func40, Try.ntmps40
        go_upto_region 7 with ((with_reducible refine hcr.mono ?_); rintro e x1 ⟨rfl, q, rfl⟩)
        have ih := put_any hc B hDB k v r rp (W.drewN (q + 1)) sr (by omega) hB (hD.trans ((bel1 q).mono (Nat.le_trans hDB hB))) (HN.out.2.2.drewN (q + 1))
        have hn0 := HN.out.1.later (below_drewN W q)
        have hnd := HN.out.1.later (bel1 q)
        go_region_held3 (fun w => w.cell? ⟨b, 3, none⟩ = some (.pointer lp) ∧ w.cell? ⟨b, 4, none⟩ = some (.pointer rp)) (first | exact ⟨hn0.c3, hn0.c4⟩ | exact ⟨hnd.c3, hnd.c4⟩ | exact ⟨hn1.c3, hn1.c4⟩ | exact ⟨hn2.c3, hn2.c4⟩) (first
          | (go_at_call 40; (with_reducible refine ih.mono ?_); clear ih; rintro e x1 ⟨t1, p1, rfl, ht1, hL1, hb1⟩; have hb1 := below_on (bel1 q) hb1; have hn1 := HN.out.1.later hb1; have bal := balanced_any b a u _ _ _ l t1 lp p1 B (by have := size_of hL1; rw [insL_len sr, T.len] at this; split at this <;> omega) x1 (Nat.le_trans hB hb1.size) hn1 (HN.out.2.1.later hb1) ht1)
          | (go_at_call 45; (with_reducible refine bal.mono ?_); clear bal; rintro e x2 ⟨t2, p2, rfl, ht2, hL2, hb2⟩; have hb2 := below_on hb1 hb2; have hn2 := HN.out.1.later hb2))
        go_wp2_with fail
        go_ret
        exact ⟨t2, p2, rfl, ht2, by rw [hL2, hL1, T.toL, insL_gt (fun p hp => by have := hla p hp; show key p.1 < key k; omega), insL, if_neg (by omega), if_pos h2], hb2⟩
      · have he : key a = key k := by omega
        have hneg : cmp3 (key k) (key a) = 0 := cmp3_zero.2 he.symm
        rw [hneg] at hcr
        go_enter Try.func40, Try.ntmps40
        go_upto_region 8 with ((with_reducible refine hcr.mono ?_); rintro e x1 ⟨rfl, q, rfl⟩)
        have hn0 := HN.out.1.later (below_drewN W q)
        have hn1 := fun o => (HN.out.1.later (bel1 q)).later (below_alloc (W.drewN (q + 1)) o)
        have hn2 := fun o => HN.out.1.later ((below_alloc W o))
        have hn3 := fun o => (HN.out.1.later (below_drewN W q)).later (below_alloc (W.drewN q) o)
        go_region_held3 (fun w => w.cell? ⟨b, 0, none⟩ = some (Value.string (a).1) ∧ w.cell? ⟨b, 2, none⟩ = some (Value.int .i64 (((l.size + 1 + r.size : Nat) : Int))) ∧ w.cell? ⟨b, 3, none⟩ = some (.pointer lp) ∧ w.cell? ⟨b, 4, none⟩ = some (.pointer rp)) (first | exact ⟨hn0.c0, hn0.c2, hn0.c3, hn0.c4⟩ | exact ⟨(hn1 _).c0, (hn1 _).c2, (hn1 _).c3, (hn1 _).c4⟩ | exact ⟨(hn2 _).c0, (hn2 _).c2, (hn2 _).c3, (hn2 _).c4⟩ | exact ⟨(hn3 _).c0, (hn3 _).c2, (hn3 _).c3, (hn3 _).c4⟩) (fail)
        go_wp2_with fail
        go_ret
        exact ⟨.nd a v l r, some ⟨W.heap.size, 0, none⟩, rfl, tr_new (W.drewN (q + 1)) B hB a v l r _ (by omega) lp rp (HN.out.2.1.drewN (q + 1)) (HN.out.2.2.drewN (q + 1)), by
          show l.toL ++ (a, v) :: r.toL = insL key k v (l.toL ++ (a, u) :: r.toL)
          rw [insL_gt (fun p hp => by have := hla p hp; show key p.1 < key k; omega), insL_eq he], below_on (bel1 q) (below_alloc (W.drewN (q + 1)) _)⟩
end Go.Proofs.Ytglfmbpcapendaa.S
