import Derived.Test.YtglfmbpcapendaaC
namespace Go.Proofs.Ytglfmbpcapendaa.S
open Go Go.RowKit Go.Proofs Go.Proofs.Ytglfmbpcapendaa
variable {M : Nat}

set_option maxRecDepth 100000 in
set_option maxHeartbeats 1000000 in
theorem tR_any (b : Nat) (k : K M) (v : Int) (n : Int) (xl xr : Option Addr) (l r : T (K M) Int) (pl pr : Option Addr) (B : Nat) (hl0 : l ≠ .nil) (hs : l.size + 1 + r.size ≤ 1000000) (W : World) (hB : B ≤ W.heap.size) (hb : Nd W b k v n xl xr)
    (h1 : Tr W B l pl) (h2 : Tr W B r pr) : Calls Try.prog 49 #[(Value.pointer (some ⟨b, 0, none⟩)), .pointer pl, .pointer pr] W (MakesL W B (l.toL ++ (k, v) :: r.toL)) := by
  cases l with
  | nil => exact absurd rfl hl0
  | nd k2 v2 ol il =>
    obtain ⟨b2, op, ip, rfl, hb2, hh2, ho, hi⟩ := h1
    have hn2 := nd_of hh2
    have hs' : (ol.size + 1 + il.size) + 1 + r.size ≤ 1000000 := hs
    have w1 := fun q => weight_any il ip B (by omega) (W.drewN q) (hi.drewN q)
    have w2 := fun q => weight_any ol op B (by omega) (W.drewN q) (ho.drewN q)
    have HW := Lib.hid (And.intro hb (And.intro h2 (And.intro hn2 (And.intro hi (And.intro ho hB)))))
    clear hb h2 hi ho hB hh2
    obtain ⟨_, _, _, c3, c4⟩ := hn2
    go_enter Try.func49, Try.ntmps49
    go_wp2_with fail
    go_quiet (fail)
    clear c3 c4
    by_cases hw : il.size + 1 < 2 * (ol.size + 1)
    · have hw' : ((il.size : Int) + 1) < 2 * ((ol.size : Int) + 1) := by omega
      have b1 := beside_any b k v n xl xr il r ip pr B (by omega) (by omega) (W.drewN nq) HW.out.2.2.2.2.2 (HW.out.1.later (below_drewN W nq)) (HW.out.2.2.2.1.drewN nq) (HW.out.2.1.drewN nq)
      go_wp2_with (first
        | (go_at_call 47; (with_reducible refine (w1 _).mono ?_); rintro e x1 ⟨rfl, rfl⟩)
        | (go_at_call 47; (with_reducible refine (w2 _).mono ?_); rintro e x1 ⟨rfl, rfl⟩)
        | (go_at_call 50; (with_reducible refine b1.mono ?_); clear b1; rintro e x1 ⟨p1, rfl, ht1, hb1⟩; have hb1 := below_on (below_drewN W nq) hb1; have b2' := beside_any b2 k2 v2 _ op ip ol (.nd k v il r) op p1 B (by omega) (by show il.size + 1 + r.size ≤ 1000000; omega) x1 (Nat.le_trans HW.out.2.2.2.2.2 hb1.size) (HW.out.2.2.1.later hb1) (HW.out.2.2.2.2.1.later hb1) ht1)
        | (go_at_call 50; (with_reducible refine b2'.mono ?_); clear b2'; rintro e x2 ⟨p2, rfl, ht2, hb2⟩))
      go_ret
      exact ⟨_, p2, rfl, ht2, by simp [T.toL], below_on hb1 hb2⟩
    · have hw' : ¬ ((il.size : Int) + 1) < 2 * ((ol.size : Int) + 1) := by omega
      cases il with
      | nil => exact absurd hw (by simp [T.size]; omega)
      | nd k3 v3 a c =>
        obtain ⟨b3, ap, cp, rfl, hb3, hh3, ha, hc⟩ := HW.out.2.2.2.1
        have hn3 := nd_of hh3
        have hs3 : (ol.size + 1 + (a.size + 1 + c.size)) + 1 + r.size ≤ 1000000 := hs
        have b1 := beside_any b2 k2 v2 _ _ _ ol a op ap B (by omega) (by omega) (W.drewN (nq + 1)) HW.out.2.2.2.2.2 (HW.out.2.2.1.later (below_drewN W (nq + 1))) (HW.out.2.2.2.2.1.drewN (nq + 1)) (ha.drewN (nq + 1))
        have HW3 := Lib.hid (And.intro ha (And.intro hc hn3))
        have hn3' := hn3.later (below_drewN W nq)
        have hn3d := hn3.later (below_drewN W (nq + 1))
        clear ha hc hh3 hn3
        generalize (T.nd k3 v3 a c).size = zi at w1 hw'
        go_upto_region 4 with (first
          | (go_at_call 47; (with_reducible refine (w1 _).mono ?_); rintro e x1 ⟨rfl, rfl⟩)
          | (go_at_call 47; (with_reducible refine (w2 _).mono ?_); rintro e x1 ⟨rfl, rfl⟩))
        go_region_held3 (fun w => w.cell? ⟨b3, 3, none⟩ = some (.pointer ap) ∧ w.cell? ⟨b3, 4, none⟩ = some (.pointer cp)) (first | exact ⟨hn3'.c3, hn3'.c4⟩ | exact ⟨hn31.c3, hn31.c4⟩ | exact ⟨hn32.c3, hn32.c4⟩ | exact ⟨hn33.c3, hn33.c4⟩ | exact ⟨hn3d.c3, hn3d.c4⟩) (first
          | (go_at_call 50; (with_reducible refine b1.mono ?_); clear b1; rintro e x1 ⟨p1, rfl, ht1, hb1⟩; have hb1 := below_on (below_drewN W (nq + 1)) hb1; have hn31 := HW3.out.2.2.later hb1; have b2' := beside_any b k v _ _ _ c r cp pr B (by omega) (by omega) x1 (Nat.le_trans HW.out.2.2.2.2.2 hb1.size) (HW.out.1.later hb1) (HW3.out.2.1.later hb1) (HW.out.2.1.later hb1))
          | (go_at_call 50; (with_reducible refine b2'.mono ?_); clear b2'; rintro e x2 ⟨p2, rfl, ht2, hb2⟩; have ht1 := ht1.later hb2; have hb2 := below_on hb1 hb2; have hn32 := HW3.out.2.2.later hb2; have b3' := beside_any b3 k3 v3 _ ap cp (.nd k2 v2 ol a) (.nd k v c r) p1 p2 B (by show ol.size + 1 + a.size ≤ 1000000; omega) (by show c.size + 1 + r.size ≤ 1000000; omega) x2 (Nat.le_trans HW.out.2.2.2.2.2 hb2.size) hn32 ht1 ht2)
          | (go_at_call 50; (with_reducible refine b3'.mono ?_); clear b3'; rintro e x3 ⟨p3, rfl, ht3, hb3⟩; have hb3 := below_on hb2 hb3; have hn33 := HW3.out.2.2.later hb3))
        go_wp2_with fail
        go_ret
        exact ⟨_, p3, rfl, ht3, by simp [T.toL], hb3⟩

set_option maxRecDepth 100000 in
set_option maxHeartbeats 1000000 in
theorem balanced_any (b : Nat) (k : K M) (v : Int) (n : Int) (xl xr : Option Addr) (l r : T (K M) Int) (pl pr : Option Addr) (B : Nat) (hs : l.size + 1 + r.size ≤ 1000000) (W : World) (hB : B ≤ W.heap.size) (hb : Nd W b k v n xl xr)
    (h1 : Tr W B l pl) (h2 : Tr W B r pr) : Calls Try.prog 45 #[(Value.pointer (some ⟨b, 0, none⟩)), .pointer pl, .pointer pr] W (MakesL W B (l.toL ++ (k, v) :: r.toL)) := by
  have wl := weight_any l pl B (by omega) W h1
  have wr := weight_any r pr B (by omega) W h2
  by_cases c1 : 3 * (l.size + 1) < r.size + 1
  · have c1' : 3 * ((l.size : Int) + 1) < (r.size : Int) + 1 := by omega
    have hc := tL_any b k v n xl xr l r pl pr B (by intro e; rw [e] at c1; simp [T.size] at c1) hs W hB hb h1 h2
    go_enter Try.func45, Try.ntmps45
    go_wp2_with (first
      | (go_at_call 47; (with_reducible refine wr.mono ?_); rintro e x1 ⟨rfl, rfl⟩)
      | (go_at_call 47; (with_reducible refine wl.mono ?_); rintro e x1 ⟨rfl, rfl⟩)
      | (go_at_call 48; (with_reducible refine hc.mono ?_); rintro e x1 ⟨t, p, rfl, h⟩))
    go_ret
    exact ⟨t, p, rfl, h⟩
  · have c1' : ¬ 3 * ((l.size : Int) + 1) < (r.size : Int) + 1 := by omega
    by_cases c2 : 3 * (r.size + 1) < l.size + 1
    · have c2' : 3 * ((r.size : Int) + 1) < (l.size : Int) + 1 := by omega
      have hc := tR_any b k v n xl xr l r pl pr B (by intro e; rw [e] at c2; simp [T.size] at c2) hs W hB hb h1 h2
      go_enter Try.func45, Try.ntmps45
      go_wp2_with (first
        | (go_at_call 47; (with_reducible refine wr.mono ?_); rintro e x1 ⟨rfl, rfl⟩)
        | (go_at_call 47; (with_reducible refine wl.mono ?_); rintro e x1 ⟨rfl, rfl⟩)
        | (go_at_call 49; (with_reducible refine hc.mono ?_); rintro e x1 ⟨t, p, rfl, h⟩))
      go_ret
      exact ⟨t, p, rfl, h⟩
    · have c2' : ¬ 3 * ((r.size : Int) + 1) < (l.size : Int) + 1 := by omega
      have hc := beside_any b k v n xl xr l r pl pr B (by omega) (by omega) W hB hb h1 h2
      go_enter Try.func45, Try.ntmps45
      go_wp2_with (first
        | (go_at_call 47; (with_reducible refine wr.mono ?_); rintro e x1 ⟨rfl, rfl⟩)
        | (go_at_call 47; (with_reducible refine wl.mono ?_); rintro e x1 ⟨rfl, rfl⟩)
        | (go_at_call 50; (with_reducible refine hc.mono ?_); rintro e x1 ⟨p, rfl, ht, hbe⟩))
      go_ret
      exact ⟨_, p, rfl, ht, rfl, hbe⟩
end Go.Proofs.Ytglfmbpcapendaa.S
