/- BitmapLaws: the walk. -/
import Derived.Test.YtpdidlnbeahanaaN
namespace Go.Proofs.Ytpdidlnbeahanaa
open Go Go.RowKit Go.Shelf Go.Proofs

theorem bm_new {w : World} {v : Value} {P : Int → Bool} (h : Vm w v P) : Bm (w.alloc (.cells #[v] 27)) w.heap.size v P := (h.later (below_alloc w _)).bm (heap_alloc_new w _)
theorem Vm.set {w : World} {v u : Value} {P : Int → Bool} {b : Nat} {cs : Array Value} (h : Vm w v P) (hb : w.heap[b]? = some (.cells cs 27)) : Vm (w.setCell ⟨b, 0, none⟩ u) v P := by
  obtain ⟨l, h1, h2, h3⟩ := h
  refine ⟨l, HRow.of h1 (fun k hk => Below.heap_setCell _ _ _ _ (fun e => ?_)), h2, h3⟩
  obtain ⟨_, cur, hh⟩ := HRow.block h1 k hk
  have e : k = b := e
  rw [e, hb] at hh
  cases hh
theorem bm_set {w : World} {v z : Value} {P : Int → Bool} {b : Nat} (h : Vm w v P) (hb : w.heap[b]? = some (.cells #[z] 27)) : Bm (w.setCell ⟨b, 0, none⟩ v) b v P :=
  (h.set hb).bm (by rw [heap_setCell_same w b 0 #[z] 27 v hb]; rfl)

structure L6 (W : World) (xb yb tb b13 b14 b15 : Nat) (vx vy v12 v13 v14 v15 : Value) (P Q R : Int → Bool) (w : World) : Prop where
  x : Bm w xb vx P
  y : Bm w yb vy Q
  t12 : Bm w tb v12 (notP (fun x => P x || Q x) 65536)
  t13 : Bm w b13 v13 (fun x => notP P 65536 x && notP Q 65536 x)
  t14 : Bm w b14 v14 (fun x => P x && (Q x || R x))
  t15 : Bm w b15 v15 (fun x => (P x && Q x) || (P x && R x))
  bel : Below W.heap.size W w
section
variable {W x z : World} {xb yb tb b13 b14 b15 : Nat} {vx vy v12 v13 v14 v15 : Value} {P Q R : Int → Bool}
theorem L6.later (h : L6 W xb yb tb b13 b14 b15 vx vy v12 v13 v14 v15 P Q R x) (hb : Below x.heap.size x z) : L6 W xb yb tb b13 b14 b15 vx vy v12 v13 v14 v15 P Q R z :=
  ⟨h.x.later hb, h.y.later hb, h.t12.later hb, h.t13.later hb, h.t14.later hb, h.t15.later hb, below_on h.bel hb⟩
theorem L6.sees (h : L6 W xb yb tb b13 b14 b15 vx vy v12 v13 v14 v15 P Q R x) : x.cell? ⟨xb, 0, none⟩ = some vx ∧ x.cell? ⟨yb, 0, none⟩ = some vy ∧ x.cell? ⟨tb, 0, none⟩ = some v12 ∧ x.cell? ⟨b13, 0, none⟩ = some v13 ∧ x.cell? ⟨b14, 0, none⟩ = some v14 ∧ x.cell? ⟨b15, 0, none⟩ = some v15 :=
  ⟨h.x.cell, h.y.cell, h.t12.cell, h.t13.cell, h.t14.cell, h.t15.cell⟩
end
theorem law_not (P Q : Int → Bool) (x : Int) : notP (fun x => P x || Q x) 65536 x = (notP P 65536 x && notP Q 65536 x) := by
  unfold notP
  show (decide (0 ≤ x ∧ x < 65536 ∧ x < 65536) && !(P x || Q x)) = _
  generalize decide (0 ≤ x ∧ x < 65536 ∧ x < 65536) = d
  cases P x <;> cases Q x <;> cases d <;> rfl
theorem law_and (P Q R : Int → Bool) (x : Int) : (P x && (Q x || R x)) = ((P x && Q x) || (P x && R x)) := by cases P x <;> cases Q x <;> cases R x <;> rfl
theorem law_out (P Q : Int → Bool) (x : Int) : (outP P Q x || (P x && Q x)) = P x := by
  unfold outP
  cases P x <;> cases Q x <;> rfl

set_option maxRecDepth 100000 in
set_option maxHeartbeats 4000000 in
theorem laws_walk (px py pz : Option Addr) (xs ys zs : List Int) (nx cx ny cy nz cz : Nat) (W : World) (hbeg : Calls Try.prog 9 #[] W fun e W' => e = .returned (.bool true) ∧ Below W.heap.size W W')
    (hx : xs.length = nx) (hy : ys.length = ny) (hz : zs.length = nz) (rx : Rd W px xs) (ry : Rd W py ys) (rz : Rd W pz zs) (kx : nx ≤ cx ∧ cx ≤ maxLen) (ky : ny ≤ cy ∧ cy ≤ maxLen) (kz : nz ≤ cz ∧ cz ≤ maxLen) :
    Calls Try.prog 6 #[.slice px nx cx, .slice py ny cy, .slice pz nz cz] W fun e W' => e = .returned (.bool true) ∧ Below W.heap.size W W' := by
  have cutx := cut_any px nx cx kx.1 kx.2
  have cuty := cut_any py ny cy ky.1 ky.2
  have cutz := cut_any pz nz cz kz.1 kz.2
  obtain ⟨mx, hmx⟩ : ∃ m, min nx 60 = m := ⟨_, rfl⟩
  obtain ⟨my, hmy⟩ : ∃ m, min ny 60 = m := ⟨_, rfl⟩
  obtain ⟨mz, hmz⟩ : ∃ m, min nz 60 = m := ⟨_, rfl⟩
  rw [hmx] at cutx
  rw [hmy] at cuty
  rw [hmz] at cutz
  have ofx := fun y (hb : Below W.heap.size W y) => vof (W := y) (xs := xs.take 60) (n := mx) (c := cx) (by rw [List.length_take]; omega) (by omega) (rx.cut.later hb)
  have ofy := fun y (hb : Below W.heap.size W y) => vof (W := y) (xs := ys.take 60) (n := my) (c := cy) (by rw [List.length_take]; omega) (by omega) (ry.cut.later hb)
  have ofz := fun y (hb : Below W.heap.size W y) => vof (W := y) (xs := zs.take 60) (n := mz) (c := cz) (by rw [List.length_take]; omega) (by omega) (rz.cut.later hb)
  generalize ofP (xs.take 60) = P at ofx
  generalize ofP (ys.take 60) = Q at ofy
  generalize ofP (zs.take 60) = R at ofz
  clear hx hy hz rx ry rz kx ky kz hmx hmy hmz
  go_enter Try.func6, Try.ntmps6
  go_upto_region 5 with (first
    | (go_at_call 9; (with_reducible refine hbeg.mono ?_); rintro e w1 ⟨rfl, b1⟩; clear hbeg)
    | (go_at_call 10; (with_reducible refine (cutx _).mono ?_); rintro e w2 ⟨rfl, hw2⟩; subst w2; clear cutx)
    | (go_at_call 11; (with_reducible refine (ofx _ b1).mono ?_); rintro e w3 ⟨px, qx, dx, rfl, m1, b2⟩; have b3 := below_on b1 b2; clear ofx b2 b1)
    | (go_at_call 10; (with_reducible refine (cuty _).mono ?_); rintro e w4 ⟨rfl, hw2⟩; subst w4; clear cuty)
    | (go_at_call 11; (with_reducible refine (ofy _ b3).mono ?_); rintro e w5 ⟨py, qy, dy, rfl, m2, b4⟩; have m1 := m1.later b4; have b5 := below_on b3 b4; clear ofy b3 b4)
    | (go_at_call 10; (with_reducible refine (cutz _).mono ?_); rintro e w6 ⟨rfl, hw2⟩; subst w6; clear cutz)
    | (go_at_call 11; (with_reducible refine (ofz _ b5).mono ?_); rintro e w7 ⟨pz, qz, dz, rfl, m3, b6⟩; have m1 := m1.later b6; have m2 := m2.later b6; have b7 := below_on b5 b6; clear ofz b5 b6))
  obtain ⟨xb, hxb⟩ : ∃ xb, w7.heap.size = xb := ⟨_, rfl⟩
  obtain ⟨y, hyw⟩ : ∃ y, ((w7.alloc (.cells #[.slice px qx dx] 27)).alloc (.cells #[.slice py qy dy] 27)).alloc (.cells #[.slice pz qz dz] 27) = y := ⟨_, rfl⟩
  have hb1 : Below w7.heap.size (w7.alloc (.cells #[.slice px qx dx] 27)) y := by rw [← hyw]; exact ((Below.refl _ _).alloc (by simp) _).alloc (by simp; omega) _
  have g1 := heap_alloc_new w7 (.cells #[.slice px qx dx] 27)
  have g2 := heap_alloc_new (w7.alloc (.cells #[.slice px qx dx] 27)) (.cells #[.slice py qy dy] 27)
  have g3 := heap_alloc_new ((w7.alloc (.cells #[.slice px qx dx] 27)).alloc (.cells #[.slice py qy dy] 27)) (.cells #[.slice pz qz dz] 27)
  rw [World.size_alloc] at g2
  rw [World.size_alloc, World.size_alloc] at g3
  have hy1 : y.heap[w7.heap.size]? = some (.cells #[.slice px qx dx] 27) := by rw [← hyw]; exact (Below.heap_alloc _ _ _ (by simp; omega)).trans ((Below.heap_alloc _ _ _ (by simp)).trans g1)
  have hy2 : y.heap[w7.heap.size + 1]? = some (.cells #[.slice py qy dy] 27) := by rw [← hyw]; exact (Below.heap_alloc _ _ _ (by simp)).trans g2
  have hy3 : y.heap[w7.heap.size + 1 + 1]? = some (.cells #[.slice pz qz dz] 27) := by rw [← hyw]; exact g3
  have h7y : Below w7.heap.size w7 y := by rw [← hyw]; exact ((below_alloc w7 _).alloc (by simp) _).alloc (by simp; omega) _
  have HB := Lib.hid (And.intro ((m1.later h7y).bm hy1) (And.intro ((m2.later h7y).bm hy2) ((m3.later h7y).bm hy3)))
  have HW := Lib.hid (below_on b7 h7y)
  rw [hyw, hxb]
  rw [hxb] at HB
  clear m1 m2 m3 b7 hb1 g1 g2 g3 hy1 hy2 hy3 h7y hyw hxb
  obtain ⟨yb, hyb⟩ : ∃ yb, xb + 1 = yb := ⟨_, rfl⟩
  obtain ⟨zb, hzb⟩ : ∃ zb, yb + 1 = zb := ⟨_, rfl⟩
  rw [hyb] at HB ⊢
  rw [hzb] at HB ⊢
  clear hyb hzb
  have cx0 := HB.out.1.cell
  have cy0 := HB.out.2.1.cell
  have cz0 := HB.out.2.2.cell
  have hlx := HB.out.1.lt
  have hly := HB.out.2.1.lt
  have hlz := HB.out.2.2.lt
  have hor := (vor HB.out.1.vm HB.out.2.1.vm)
  go_upto_region 7 with (first
    | (go_at_call 23; (with_reducible refine hor.mono ?_); rintro e y1 ⟨p1, q1, d1, rfl, m1, b1⟩; have hnn := vnot m1 65536; clear hor)
    | (go_at_call 26; (with_reducible refine hnn.mono ?_); rintro e y2 ⟨p2, q2, d2, rfl, m2, b2⟩; clear hnn))
  obtain ⟨tb, htb⟩ : ∃ tb, y2.heap.size = tb := ⟨_, rfl⟩
  have B2 : Below y.heap.size y y2 := below_on b1 b2
  have T1 := bm_new m2
  have B3 : Below y.heap.size y (y2.alloc (.cells #[.slice p2 q2 d2] 27)) := B2.alloc B2.size _
  rw [htb] at T1 ⊢
  obtain ⟨u, hu⟩ : ∃ u, y2.alloc (.cells #[.slice p2 q2 d2] 27) = u := ⟨_, rfl⟩
  rw [hu] at T1 B3 ⊢
  replace HB := Lib.hid (And.intro (HB.out.1.later B3) (And.intro (HB.out.2.1.later B3) (HB.out.2.2.later B3)))
  replace HW := Lib.hid (below_on HW.out B3)
  clear cx0 cy0 cz0 hlx hly hlz b1 b2 m1 m2 B2 B3 hu htb
  obtain ⟨y, rfl⟩ : ∃ y, y = u := ⟨_, rfl⟩
  have HT := Lib.hid T1
  have cx0 := HB.out.1.cell
  have cy0 := HB.out.2.1.cell
  have cz0 := HB.out.2.2.cell
  clear T1
  go_upto_region 7 with fail
  go_cut [13] from 300 to 300 (fun bv w => ∃ (b : Nat) (p : Option Addr) (n c : Nat), bv = (Value.pointer (some ⟨b, 0, none⟩)) ∧ Bm w b (.slice p n c) (fun x => notP P 65536 x && notP Q 65536 x) ∧ Below y.heap.size y w)
  case first =>
    have B0 := (Below.refl y.heap.size y).drew
    go_region_held3 (fun w => w.cell? ⟨xb, 0, none⟩ = some (.slice px qx dx) ∧ w.cell? ⟨yb, 0, none⟩ = some (.slice py qy dy)) (first | exact ⟨cx0, cy0⟩ | exact ⟨bel_cell (W := y) B0 cx0, bel_cell (W := y) B0 cy0⟩ | exact ⟨bel_cell (W := y) B1 cx0, bel_cell (W := y) B1 cy0⟩ | exact ⟨bel_cell (W := y) B2 cx0, bel_cell (W := y) B2 cy0⟩ | exact ⟨bel_cell (W := y) B3 cx0, bel_cell (W := y) B3 cy0⟩ | exact ⟨bel_cell (W := y) (((Below.refl y.heap.size y).alloc (Nat.le_refl _) (.cells #[.slice none 0 0] 27)).drew) cx0, bel_cell (W := y) (((Below.refl y.heap.size y).alloc (Nat.le_refl _) (.cells #[.slice none 0 0] 27)).drew) cy0⟩ | exact ⟨bel_cell (W := y) ((Below.refl y.heap.size y).alloc (Nat.le_refl _) (.cells #[.slice none 0 0] 27)) cx0, bel_cell (W := y) ((Below.refl y.heap.size y).alloc (Nat.le_refl _) (.cells #[.slice none 0 0] 27)) cy0⟩ | exact ⟨bel_cell (W := y) (B0.alloc B0.size _) cx0, bel_cell (W := y) (B0.alloc B0.size _) cy0⟩ | exact ⟨bel_cell (W := y) (B1.alloc B1.size _) cx0, bel_cell (W := y) (B1.alloc B1.size _) cy0⟩ | exact ⟨bel_cell (W := y) (B2.alloc B2.size _) cx0, bel_cell (W := y) (B2.alloc B2.size _) cy0⟩ | exact ⟨bel_cell (W := y) (B3.alloc B3.size _) cx0, bel_cell (W := y) (B3.alloc B3.size _) cy0⟩ | exact ⟨bel_cell (W := y) ((B0.alloc B0.size _).setCell B0.size _) cx0, bel_cell (W := y) ((B0.alloc B0.size _).setCell B0.size _) cy0⟩ | exact ⟨bel_cell (W := y) ((B1.alloc B1.size _).setCell B1.size _) cx0, bel_cell (W := y) ((B1.alloc B1.size _).setCell B1.size _) cy0⟩ | exact ⟨bel_cell (W := y) ((B2.alloc B2.size _).setCell B2.size _) cx0, bel_cell (W := y) ((B2.alloc B2.size _).setCell B2.size _) cy0⟩ | exact ⟨bel_cell (W := y) ((B3.alloc B3.size _).setCell B3.size _) cx0, bel_cell (W := y) ((B3.alloc B3.size _).setCell B3.size _) cy0⟩ | exact ⟨bel_cell (W := y) (B3.setCell (by first | exact Nat.le_refl _ | exact B1.size | exact B2.size) _) cx0, bel_cell (W := y) (B3.setCell (by first | exact Nat.le_refl _ | exact B1.size | exact B2.size) _) cy0⟩) (first
      | (go_at_call 26; (with_reducible refine Calls.mono (vnot (HB.out.1.later B0).vm 65536) ?_); rintro e y1 ⟨p1, q1, d1, rfl, m1_1, b1⟩; have B1 : Below y.heap.size y y1 := B0.trans (b1.mono B0.size))
      | (go_at_call 26; (with_reducible refine Calls.mono (vnot (HB.out.1.later ((Below.refl y.heap.size y).alloc (Nat.le_refl _) (.cells #[.slice none 0 0] 27)).drew).vm 65536) ?_); rintro e y1 ⟨p1, q1, d1, rfl, m1_1, b1⟩; have B1 : Below y.heap.size y y1 := ((Below.refl y.heap.size y).alloc (Nat.le_refl _) (.cells #[.slice none 0 0] 27)).drew.trans (b1.mono (by simp)); have k1 := heap_below b1 (heap_alloc_new y (.cells #[.slice none 0 0] 27)); have kc1 := nd_cell k1 0; have kf1 := frozen_of_row _ _ 0 _ _ k1; have kl1 := lt_of_heap k1)
      | (go_at_call 26; (with_reducible refine Calls.mono (vnot (HB.out.2.1.later B1).vm 65536) ?_); rintro e y2 ⟨p2, q2, d2, rfl, m2_2, b2⟩; have B2 : Below y.heap.size y y2 := B1.trans (b2.mono B1.size); have m1_2 := m1_1.later b2; (first | (have k2 := heap_below b2 k1; have kc2 := nd_cell k2 0; have kf2 := frozen_of_row _ _ 0 _ _ k2; have kl2 := lt_of_heap k2) | skip))
      | (go_at_call 26; (with_reducible refine Calls.mono (vnot (HB.out.2.1.later (B1.alloc B1.size (.cells #[.slice none 0 0] 27))).vm 65536) ?_); rintro e y2 ⟨p2, q2, d2, rfl, m2_2, b2⟩; have B2 : Below y.heap.size y y2 := (B1.alloc B1.size (.cells #[.slice none 0 0] 27)).trans (b2.mono (by have := B1.size; simp; omega)); have m1_2 := (m1_1.later (below_alloc y1 (.cells #[.slice none 0 0] 27))).later b2; have k2 := heap_below b2 (heap_alloc_new y1 (.cells #[.slice none 0 0] 27)); have kc2 := nd_cell k2 0; have kf2 := frozen_of_row _ _ 0 _ _ k2; have kl2 := lt_of_heap k2)
      | (go_at_call 22; (with_reducible refine Calls.mono (vand m1_2 m2_2) ?_); rintro e y3 ⟨p3, q3, d3, rfl, m3_3, b3⟩; have B3 : Below y.heap.size y y3 := B2.trans (b3.mono B2.size); have m1_3 := m1_2.later b3; have m2_3 := m2_2.later b3; (first | (have k3 := heap_below b3 k2; have kc3 := nd_cell k3 0; have kf3 := frozen_of_row _ _ 0 _ _ k3; have kl3 := lt_of_heap k3) | skip))
      | (go_at_call 22; (with_reducible refine Calls.mono (vand (m1_2.later (below_alloc y2 (.cells #[.slice none 0 0] 27))) (m2_2.later (below_alloc y2 (.cells #[.slice none 0 0] 27)))) ?_); rintro e y3 ⟨p3, q3, d3, rfl, m3_3, b3⟩; have B3 : Below y.heap.size y y3 := (B2.alloc B2.size (.cells #[.slice none 0 0] 27)).trans (b3.mono (by have := B2.size; simp; omega)); have m1_3 := (m1_2.later (below_alloc y2 (.cells #[.slice none 0 0] 27))).later b3; have m2_3 := (m2_2.later (below_alloc y2 (.cells #[.slice none 0 0] 27))).later b3; have k3 := heap_below b3 (heap_alloc_new y2 (.cells #[.slice none 0 0] 27)); have kc3 := nd_cell k3 0; have kf3 := frozen_of_row _ _ 0 _ _ k3; have kl3 := lt_of_heap k3))
    all_goals
      go_wp2_with fail
      go_meet
      first
        | exact ⟨_, p3, q3, d3, rfl, bm_new m3_3, (B3.alloc B3.size _)⟩
        | exact ⟨_, p3, q3, d3, rfl, bm_set m3_3 k3, (B3.setCell (by first | exact Nat.le_refl _ | exact B1.size | exact B2.size) _)⟩
  case rest =>
    obtain ⟨b13, p13, q13, d13, rfl, T, B⟩ := hcut
    replace HB := Lib.hid (And.intro (HB.out.1.later B) (And.intro (HB.out.2.1.later B) (HB.out.2.2.later B)))
    replace HW := Lib.hid (below_on HW.out B)
    replace HT := Lib.hid (And.intro T (HT.out.later B))
    clear cx0 cy0 cz0 T B
    obtain ⟨y, rfl⟩ : ∃ y, y = wc := ⟨_, rfl⟩
    have cx0 := HB.out.1.cell
    have cy0 := HB.out.2.1.cell
    have cz0 := HB.out.2.2.cell
    go_upto_region 8 with fail
    go_cut [14] from 300 to 300 (fun bv w => ∃ (b : Nat) (p : Option Addr) (n c : Nat), bv = (Value.pointer (some ⟨b, 0, none⟩)) ∧ Bm w b (.slice p n c) (fun x => P x && (Q x || R x)) ∧ Below y.heap.size y w)
    case first =>
      have B0 := (Below.refl y.heap.size y).drew
      go_region_held3 (fun w => w.cell? ⟨xb, 0, none⟩ = some (.slice px qx dx) ∧ w.cell? ⟨yb, 0, none⟩ = some (.slice py qy dy) ∧ w.cell? ⟨zb, 0, none⟩ = some (.slice pz qz dz)) (first | exact ⟨cx0, cy0, cz0⟩ | exact ⟨bel_cell (W := y) B0 cx0, bel_cell (W := y) B0 cy0, bel_cell (W := y) B0 cz0⟩ | exact ⟨bel_cell (W := y) B1 cx0, bel_cell (W := y) B1 cy0, bel_cell (W := y) B1 cz0⟩ | exact ⟨bel_cell (W := y) B2 cx0, bel_cell (W := y) B2 cy0, bel_cell (W := y) B2 cz0⟩ | exact ⟨bel_cell (W := y) (((Below.refl y.heap.size y).alloc (Nat.le_refl _) (.cells #[.slice none 0 0] 27)).drew) cx0, bel_cell (W := y) (((Below.refl y.heap.size y).alloc (Nat.le_refl _) (.cells #[.slice none 0 0] 27)).drew) cy0, bel_cell (W := y) (((Below.refl y.heap.size y).alloc (Nat.le_refl _) (.cells #[.slice none 0 0] 27)).drew) cz0⟩ | exact ⟨bel_cell (W := y) ((Below.refl y.heap.size y).alloc (Nat.le_refl _) (.cells #[.slice none 0 0] 27)) cx0, bel_cell (W := y) ((Below.refl y.heap.size y).alloc (Nat.le_refl _) (.cells #[.slice none 0 0] 27)) cy0, bel_cell (W := y) ((Below.refl y.heap.size y).alloc (Nat.le_refl _) (.cells #[.slice none 0 0] 27)) cz0⟩ | exact ⟨bel_cell (W := y) (B0.alloc B0.size _) cx0, bel_cell (W := y) (B0.alloc B0.size _) cy0, bel_cell (W := y) (B0.alloc B0.size _) cz0⟩ | exact ⟨bel_cell (W := y) (B1.alloc B1.size _) cx0, bel_cell (W := y) (B1.alloc B1.size _) cy0, bel_cell (W := y) (B1.alloc B1.size _) cz0⟩ | exact ⟨bel_cell (W := y) (B2.alloc B2.size _) cx0, bel_cell (W := y) (B2.alloc B2.size _) cy0, bel_cell (W := y) (B2.alloc B2.size _) cz0⟩ | exact ⟨bel_cell (W := y) ((B0.alloc B0.size _).setCell B0.size _) cx0, bel_cell (W := y) ((B0.alloc B0.size _).setCell B0.size _) cy0, bel_cell (W := y) ((B0.alloc B0.size _).setCell B0.size _) cz0⟩ | exact ⟨bel_cell (W := y) ((B1.alloc B1.size _).setCell B1.size _) cx0, bel_cell (W := y) ((B1.alloc B1.size _).setCell B1.size _) cy0, bel_cell (W := y) ((B1.alloc B1.size _).setCell B1.size _) cz0⟩ | exact ⟨bel_cell (W := y) ((B2.alloc B2.size _).setCell B2.size _) cx0, bel_cell (W := y) ((B2.alloc B2.size _).setCell B2.size _) cy0, bel_cell (W := y) ((B2.alloc B2.size _).setCell B2.size _) cz0⟩ | exact ⟨bel_cell (W := y) (B2.setCell (by first | exact Nat.le_refl _ | exact B1.size | exact B2.size) _) cx0, bel_cell (W := y) (B2.setCell (by first | exact Nat.le_refl _ | exact B1.size | exact B2.size) _) cy0, bel_cell (W := y) (B2.setCell (by first | exact Nat.le_refl _ | exact B1.size | exact B2.size) _) cz0⟩) (first
        | (go_at_call 23; (with_reducible refine Calls.mono (vor (HB.out.2.1.later B0).vm (HB.out.2.2.later B0).vm) ?_); rintro e y1 ⟨p1, q1, d1, rfl, m1_1, b1⟩; have B1 : Below y.heap.size y y1 := B0.trans (b1.mono B0.size))
        | (go_at_call 23; (with_reducible refine Calls.mono (vor (HB.out.2.1.later ((Below.refl y.heap.size y).alloc (Nat.le_refl _) (.cells #[.slice none 0 0] 27)).drew).vm (HB.out.2.2.later ((Below.refl y.heap.size y).alloc (Nat.le_refl _) (.cells #[.slice none 0 0] 27)).drew).vm) ?_); rintro e y1 ⟨p1, q1, d1, rfl, m1_1, b1⟩; have B1 : Below y.heap.size y y1 := ((Below.refl y.heap.size y).alloc (Nat.le_refl _) (.cells #[.slice none 0 0] 27)).drew.trans (b1.mono (by simp)); have k1 := heap_below b1 (heap_alloc_new y (.cells #[.slice none 0 0] 27)); have kc1 := nd_cell k1 0; have kf1 := frozen_of_row _ _ 0 _ _ k1; have kl1 := lt_of_heap k1)
        | (go_at_call 22; (with_reducible refine Calls.mono (vand (HB.out.1.later B1).vm m1_1) ?_); rintro e y2 ⟨p2, q2, d2, rfl, m2_2, b2⟩; have B2 : Below y.heap.size y y2 := B1.trans (b2.mono B1.size); have m1_2 := m1_1.later b2; (first | (have k2 := heap_below b2 k1; have kc2 := nd_cell k2 0; have kf2 := frozen_of_row _ _ 0 _ _ k2; have kl2 := lt_of_heap k2) | skip))
        | (go_at_call 22; (with_reducible refine Calls.mono (vand (HB.out.1.later (B1.alloc B1.size (.cells #[.slice none 0 0] 27))).vm (m1_1.later (below_alloc y1 (.cells #[.slice none 0 0] 27)))) ?_); rintro e y2 ⟨p2, q2, d2, rfl, m2_2, b2⟩; have B2 : Below y.heap.size y y2 := (B1.alloc B1.size (.cells #[.slice none 0 0] 27)).trans (b2.mono (by have := B1.size; simp; omega)); have m1_2 := (m1_1.later (below_alloc y1 (.cells #[.slice none 0 0] 27))).later b2; have k2 := heap_below b2 (heap_alloc_new y1 (.cells #[.slice none 0 0] 27)); have kc2 := nd_cell k2 0; have kf2 := frozen_of_row _ _ 0 _ _ k2; have kl2 := lt_of_heap k2))
      all_goals
        go_wp2_with fail
        go_meet
        first
          | exact ⟨_, p2, q2, d2, rfl, bm_new m2_2, (B2.alloc B2.size _)⟩
          | exact ⟨_, p2, q2, d2, rfl, bm_set m2_2 k2, (B2.setCell (by first | exact Nat.le_refl _ | exact B1.size | exact B2.size) _)⟩
    case rest =>
      obtain ⟨b14, p14, q14, d14, rfl, T, B⟩ := hcut
      replace HB := Lib.hid (And.intro (HB.out.1.later B) (And.intro (HB.out.2.1.later B) (HB.out.2.2.later B)))
      replace HW := Lib.hid (below_on HW.out B)
      replace HT := Lib.hid (And.intro T (And.intro (HT.out.1.later B) (HT.out.2.later B)))
      clear cx0 cy0 cz0 T B
      obtain ⟨y, rfl⟩ : ∃ y, y = wc := ⟨_, rfl⟩
      have cx0 := HB.out.1.cell
      have cy0 := HB.out.2.1.cell
      have cz0 := HB.out.2.2.cell
      go_upto_region 9 with fail
      go_cut [15] from 300 to 300 (fun bv w => ∃ (b : Nat) (p : Option Addr) (n c : Nat), bv = (Value.pointer (some ⟨b, 0, none⟩)) ∧ Bm w b (.slice p n c) (fun x => (P x && Q x) || (P x && R x)) ∧ Below y.heap.size y w)
      case first =>
        have B0 := (Below.refl y.heap.size y).drew
        go_region_held3 (fun w => w.cell? ⟨xb, 0, none⟩ = some (.slice px qx dx) ∧ w.cell? ⟨yb, 0, none⟩ = some (.slice py qy dy) ∧ w.cell? ⟨zb, 0, none⟩ = some (.slice pz qz dz)) (first | exact ⟨cx0, cy0, cz0⟩ | exact ⟨bel_cell (W := y) B0 cx0, bel_cell (W := y) B0 cy0, bel_cell (W := y) B0 cz0⟩ | exact ⟨bel_cell (W := y) B1 cx0, bel_cell (W := y) B1 cy0, bel_cell (W := y) B1 cz0⟩ | exact ⟨bel_cell (W := y) B2 cx0, bel_cell (W := y) B2 cy0, bel_cell (W := y) B2 cz0⟩ | exact ⟨bel_cell (W := y) B3 cx0, bel_cell (W := y) B3 cy0, bel_cell (W := y) B3 cz0⟩ | exact ⟨bel_cell (W := y) (((Below.refl y.heap.size y).alloc (Nat.le_refl _) (.cells #[.slice none 0 0] 27)).drew) cx0, bel_cell (W := y) (((Below.refl y.heap.size y).alloc (Nat.le_refl _) (.cells #[.slice none 0 0] 27)).drew) cy0, bel_cell (W := y) (((Below.refl y.heap.size y).alloc (Nat.le_refl _) (.cells #[.slice none 0 0] 27)).drew) cz0⟩ | exact ⟨bel_cell (W := y) ((Below.refl y.heap.size y).alloc (Nat.le_refl _) (.cells #[.slice none 0 0] 27)) cx0, bel_cell (W := y) ((Below.refl y.heap.size y).alloc (Nat.le_refl _) (.cells #[.slice none 0 0] 27)) cy0, bel_cell (W := y) ((Below.refl y.heap.size y).alloc (Nat.le_refl _) (.cells #[.slice none 0 0] 27)) cz0⟩ | exact ⟨bel_cell (W := y) (B0.alloc B0.size _) cx0, bel_cell (W := y) (B0.alloc B0.size _) cy0, bel_cell (W := y) (B0.alloc B0.size _) cz0⟩ | exact ⟨bel_cell (W := y) (B1.alloc B1.size _) cx0, bel_cell (W := y) (B1.alloc B1.size _) cy0, bel_cell (W := y) (B1.alloc B1.size _) cz0⟩ | exact ⟨bel_cell (W := y) (B2.alloc B2.size _) cx0, bel_cell (W := y) (B2.alloc B2.size _) cy0, bel_cell (W := y) (B2.alloc B2.size _) cz0⟩ | exact ⟨bel_cell (W := y) (B3.alloc B3.size _) cx0, bel_cell (W := y) (B3.alloc B3.size _) cy0, bel_cell (W := y) (B3.alloc B3.size _) cz0⟩ | exact ⟨bel_cell (W := y) ((B0.alloc B0.size _).setCell B0.size _) cx0, bel_cell (W := y) ((B0.alloc B0.size _).setCell B0.size _) cy0, bel_cell (W := y) ((B0.alloc B0.size _).setCell B0.size _) cz0⟩ | exact ⟨bel_cell (W := y) ((B1.alloc B1.size _).setCell B1.size _) cx0, bel_cell (W := y) ((B1.alloc B1.size _).setCell B1.size _) cy0, bel_cell (W := y) ((B1.alloc B1.size _).setCell B1.size _) cz0⟩ | exact ⟨bel_cell (W := y) ((B2.alloc B2.size _).setCell B2.size _) cx0, bel_cell (W := y) ((B2.alloc B2.size _).setCell B2.size _) cy0, bel_cell (W := y) ((B2.alloc B2.size _).setCell B2.size _) cz0⟩ | exact ⟨bel_cell (W := y) ((B3.alloc B3.size _).setCell B3.size _) cx0, bel_cell (W := y) ((B3.alloc B3.size _).setCell B3.size _) cy0, bel_cell (W := y) ((B3.alloc B3.size _).setCell B3.size _) cz0⟩ | exact ⟨bel_cell (W := y) (B3.setCell (by first | exact Nat.le_refl _ | exact B1.size | exact B2.size) _) cx0, bel_cell (W := y) (B3.setCell (by first | exact Nat.le_refl _ | exact B1.size | exact B2.size) _) cy0, bel_cell (W := y) (B3.setCell (by first | exact Nat.le_refl _ | exact B1.size | exact B2.size) _) cz0⟩) (first
          | (go_at_call 22; (with_reducible refine Calls.mono (vand (HB.out.1.later B0).vm (HB.out.2.1.later B0).vm) ?_); rintro e y1 ⟨p1, q1, d1, rfl, m1_1, b1⟩; have B1 : Below y.heap.size y y1 := B0.trans (b1.mono B0.size))
          | (go_at_call 22; (with_reducible refine Calls.mono (vand (HB.out.1.later ((Below.refl y.heap.size y).alloc (Nat.le_refl _) (.cells #[.slice none 0 0] 27)).drew).vm (HB.out.2.1.later ((Below.refl y.heap.size y).alloc (Nat.le_refl _) (.cells #[.slice none 0 0] 27)).drew).vm) ?_); rintro e y1 ⟨p1, q1, d1, rfl, m1_1, b1⟩; have B1 : Below y.heap.size y y1 := ((Below.refl y.heap.size y).alloc (Nat.le_refl _) (.cells #[.slice none 0 0] 27)).drew.trans (b1.mono (by simp)); have k1 := heap_below b1 (heap_alloc_new y (.cells #[.slice none 0 0] 27)); have kc1 := nd_cell k1 0; have kf1 := frozen_of_row _ _ 0 _ _ k1; have kl1 := lt_of_heap k1)
          | (go_at_call 22; (with_reducible refine Calls.mono (vand (HB.out.1.later B1).vm (HB.out.2.2.later B1).vm) ?_); rintro e y2 ⟨p2, q2, d2, rfl, m2_2, b2⟩; have B2 : Below y.heap.size y y2 := B1.trans (b2.mono B1.size); have m1_2 := m1_1.later b2; (first | (have k2 := heap_below b2 k1; have kc2 := nd_cell k2 0; have kf2 := frozen_of_row _ _ 0 _ _ k2; have kl2 := lt_of_heap k2) | skip))
          | (go_at_call 22; (with_reducible refine Calls.mono (vand (HB.out.1.later (B1.alloc B1.size (.cells #[.slice none 0 0] 27))).vm (HB.out.2.2.later (B1.alloc B1.size (.cells #[.slice none 0 0] 27))).vm) ?_); rintro e y2 ⟨p2, q2, d2, rfl, m2_2, b2⟩; have B2 : Below y.heap.size y y2 := (B1.alloc B1.size (.cells #[.slice none 0 0] 27)).trans (b2.mono (by have := B1.size; simp; omega)); have m1_2 := (m1_1.later (below_alloc y1 (.cells #[.slice none 0 0] 27))).later b2; have k2 := heap_below b2 (heap_alloc_new y1 (.cells #[.slice none 0 0] 27)); have kc2 := nd_cell k2 0; have kf2 := frozen_of_row _ _ 0 _ _ k2; have kl2 := lt_of_heap k2)
          | (go_at_call 23; (with_reducible refine Calls.mono (vor m1_2 m2_2) ?_); rintro e y3 ⟨p3, q3, d3, rfl, m3_3, b3⟩; have B3 : Below y.heap.size y y3 := B2.trans (b3.mono B2.size); have m1_3 := m1_2.later b3; have m2_3 := m2_2.later b3; (first | (have k3 := heap_below b3 k2; have kc3 := nd_cell k3 0; have kf3 := frozen_of_row _ _ 0 _ _ k3; have kl3 := lt_of_heap k3) | skip))
          | (go_at_call 23; (with_reducible refine Calls.mono (vor (m1_2.later (below_alloc y2 (.cells #[.slice none 0 0] 27))) (m2_2.later (below_alloc y2 (.cells #[.slice none 0 0] 27)))) ?_); rintro e y3 ⟨p3, q3, d3, rfl, m3_3, b3⟩; have B3 : Below y.heap.size y y3 := (B2.alloc B2.size (.cells #[.slice none 0 0] 27)).trans (b3.mono (by have := B2.size; simp; omega)); have m1_3 := (m1_2.later (below_alloc y2 (.cells #[.slice none 0 0] 27))).later b3; have m2_3 := (m2_2.later (below_alloc y2 (.cells #[.slice none 0 0] 27))).later b3; have k3 := heap_below b3 (heap_alloc_new y2 (.cells #[.slice none 0 0] 27)); have kc3 := nd_cell k3 0; have kf3 := frozen_of_row _ _ 0 _ _ k3; have kl3 := lt_of_heap k3))
        all_goals
          go_wp2_with fail
          go_meet
          first
            | exact ⟨_, p3, q3, d3, rfl, bm_new m3_3, (B3.alloc B3.size _)⟩
            | exact ⟨_, p3, q3, d3, rfl, bm_set m3_3 k3, (B3.setCell (by first | exact Nat.le_refl _ | exact B1.size | exact B2.size) _)⟩
      case rest =>
        obtain ⟨b15, p15, q15, d15, rfl, T, B⟩ := hcut
        replace HB := Lib.hid (And.intro (HB.out.1.later B) (And.intro (HB.out.2.1.later B) (HB.out.2.2.later B)))
        replace HW := Lib.hid (below_on HW.out B)
        replace HT := Lib.hid (And.intro T (And.intro (HT.out.1.later B) (And.intro (HT.out.2.1.later B) (HT.out.2.2.later B))))
        clear cx0 cy0 cz0 T B
        obtain ⟨y, rfl⟩ : ∃ y, y = wc := ⟨_, rfl⟩
        have cx0 := HB.out.1.cell
        have cy0 := HB.out.2.1.cell
        have cz0 := HB.out.2.2.cell
        have G : Hid (L6 W xb yb tb b13 b14 b15 (.slice px qx dx) (.slice py qy dy) (.slice p2 q2 d2) (.slice p13 q13 d13) (.slice p14 q14 d14) (.slice p15 q15 d15) P Q R y.drew) := Lib.hid (L6.later (x := y) ⟨HB.out.1, HB.out.2.1, HT.out.2.2.2, HT.out.2.2.1, HT.out.2.1, HT.out.1, HW.out⟩ (Below.refl _ y).drew)
        have hs0 := G.out.sees
        obtain ⟨s1, s2, s3, s4, s5, s6⟩ := hs0
        have k1 := fun u v (h : Vm u v (fun x => P x || Q x)) => vcount h
        have k2 := fun u v (h : Vm u v (fun x => P x && Q x)) => vcount h
        have k3 := fun u v (h : Vm u v P) => vcount h
        have k4 := fun u v (h : Vm u v Q) => vcount h
        have hsum := elems_both P Q
        have l1 := elems_len (fun x => P x || Q x)
        have l2 := elems_len (fun x => P x && Q x)
        have l3 := elems_len P
        have l4 := elems_len Q
        obtain ⟨n1, hn1⟩ : ∃ n, (elems (fun x => P x || Q x)).length = n := ⟨_, rfl⟩
        obtain ⟨n2, hn2⟩ : ∃ n, (elems (fun x => P x && Q x)).length = n := ⟨_, rfl⟩
        obtain ⟨n3, hn3⟩ : ∃ n, (elems P).length = n := ⟨_, rfl⟩
        obtain ⟨n4, hn4⟩ : ∃ n, (elems Q).length = n := ⟨_, rfl⟩
        simp only [hn1, hn2, hn3, hn4] at k1 k2 k3 k4 hsum l1 l2 l3 l4
        obtain ⟨s, hs⟩ : ∃ s, (n1 : Int) + (n2 : Int) = s := ⟨_, rfl⟩
        have w1 : IntKind.i64.wrap ((n1 : Int) + (n2 : Int)) = s := by rw [Go.IntWalk.i64_in _ (by omega)]; exact hs
        have w2 : IntKind.i64.wrap ((n3 : Int) + (n4 : Int)) = s := by rw [Go.IntWalk.i64_in _ (by omega)]; omega
        clear hn1 hn2 hn3 hn4 hsum l1 l2 l3 l4 hs HB HT HW cx0 cy0 cz0
        go_upto_region 10 with fail
        go_region_held3 (fun w => w.cell? ⟨xb, 0, none⟩ = some (.slice px qx dx) ∧ w.cell? ⟨yb, 0, none⟩ = some (.slice py qy dy) ∧ w.cell? ⟨tb, 0, none⟩ = some (.slice p2 q2 d2) ∧ w.cell? ⟨b13, 0, none⟩ = some (.slice p13 q13 d13) ∧ w.cell? ⟨b14, 0, none⟩ = some (.slice p14 q14 d14) ∧ w.cell? ⟨b15, 0, none⟩ = some (.slice p15 q15 d15)) (first | exact G.out.sees | exact ⟨s1, s2, s3, s4, s5, s6⟩) (first
          | (go_at_call 25; (with_reducible refine Calls.mono (veq G.out.t12.vm G.out.t13.vm true ⟨fun _ => law_not P Q, fun _ => rfl⟩) ?_); rintro e z1 ⟨rfl, b⟩; replace G := Lib.hid (G.out.later b))
          | (go_at_call 25; (with_reducible refine Calls.mono (veq G.out.t14.vm G.out.t15.vm true ⟨fun _ => law_and P Q R, fun _ => rfl⟩) ?_); rintro e z2 ⟨rfl, b⟩; replace G := Lib.hid (G.out.later b))
          | (go_at_call 24; (with_reducible refine Calls.mono (vout G.out.x.vm G.out.y.vm) ?_); rintro e z3 ⟨pa, qa, da, rfl, ma, b⟩; replace G := Lib.hid (G.out.later b))
          | (go_at_call 22; (with_reducible refine Calls.mono (vand G.out.x.vm G.out.y.vm) ?_); rintro e z4 ⟨pb, qb, db, rfl, mb, b⟩; replace ma := ma.later b; replace G := Lib.hid (G.out.later b))
          | (go_at_call 23; (with_reducible refine Calls.mono (vor ma mb) ?_); rintro e z5 ⟨pc, qc, dc, rfl, mc, b⟩; clear ma mb; replace G := Lib.hid (G.out.later b))
          | (go_at_call 25; (with_reducible refine Calls.mono (veq mc G.out.x.vm true ⟨fun _ => law_out P Q, fun _ => rfl⟩) ?_); rintro e z6 ⟨rfl, b⟩; replace G := Lib.hid (G.out.later b))
          | (go_at_call 23; (with_reducible refine Calls.mono (vor G.out.x.vm G.out.y.vm) ?_); rintro e z7 ⟨pe, qe, de, rfl, me, b⟩; replace G := Lib.hid (G.out.later b))
          | (go_at_call 28; (with_reducible refine Calls.mono (k1 _ _ me) ?_); rintro e z8 ⟨rfl, b⟩; replace G := Lib.hid (G.out.later b))
          | (go_at_call 22; (with_reducible refine Calls.mono (vand G.out.x.vm G.out.y.vm) ?_); rintro e z9 ⟨pf, qf, df, rfl, mf, b⟩; replace G := Lib.hid (G.out.later b))
          | (go_at_call 28; (with_reducible refine Calls.mono (k2 _ _ mf) ?_); rintro e z10 ⟨rfl, b⟩; replace G := Lib.hid (G.out.later b))
          | (go_at_call 28; (with_reducible refine Calls.mono (k3 _ _ G.out.x.vm) ?_); rintro e z11 ⟨rfl, b⟩; replace G := Lib.hid (G.out.later b))
          | (go_at_call 28; (with_reducible refine Calls.mono (k4 _ _ G.out.y.vm) ?_); rintro e z12 ⟨rfl, b⟩; replace G := Lib.hid (G.out.later b)))
        go_wp2_with fail
        go_ret
        exact ⟨rfl, G.out.bel⟩
end Go.Proofs.Ytpdidlnbeahanaa
