/- step, Find, addCols, addKeyed. -/
import Derived.Test.YtmfkkpogmmoflaaGreatVC
import Derived.Test.YtmfkkpogmmoflaaGreatPG
namespace Go.Proofs.YtmfkkpogmmoflaaGreat
open Go Go.RowKit Go.Proofs

set_option maxRecDepth 100000 in
set_option maxHeartbeats 1000000 in
theorem kstep_is {a l : List ByteArray} {x : ByteArray} {va : Value} {w : World} {m : Nat} (ha : Wd w va a) (hl : a.length ≤ 4) (he : a ++ [x] = l) (hm : l.length = m) : Calls Tryz.prog 50 #[va, .string x] w fun e w' => ∃ p c, e = .returned (.slice p m c) ∧ Wd w' (.slice p m c) l ∧ Below w.heap.size w w' := by
  have hcat : Calls Tryz.prog 66 #[.slice (some ⟨w.heap.size + 1, 0, none⟩) 2 2] ((w.alloc (.cells #[.string x] 9)).alloc (.cells #[va, .slice (some ⟨w.heap.size, 0, none⟩) 1 1] 25)) fun e w' => ∃ p c, e = .returned (.slice p m c) ∧ Wd w' (.slice p m c) l ∧ Below w.heap.size w w' := by
    have b1 := below_alloc w (.cells #[.string x] 9)
    have b2 := below_alloc (w.alloc (.cells #[.string x] 9)) (.cells #[va, .slice (some ⟨w.heap.size, 0, none⟩) 1 1] 25)
    have k2 := heap_alloc_new (w.alloc (.cells #[.string x] 9)) (.cells #[va, .slice (some ⟨w.heap.size, 0, none⟩) 1 1] 25)
    rw [World.size_alloc] at k2
    exact (concat_is k2 (ha.later (below_on b1 b2)) ((Wd.lit (heap_alloc_new w (.cells #[.string x] 9))).later b2) hl he hm).mono fun e w' ⟨p, c, h1, h2, h3⟩ => ⟨p, c, h1, h2, below_on (below_on b1 b2) h3⟩
  obtain ⟨pa, ca, rfl, _, _⟩ := ha.slice
  obtain ⟨la, hla⟩ : ∃ n, a.length = n := ⟨_, rfl⟩
  rw [hla] at hcat ⊢
  clear ha hl hla he hm
  go_enter Tryz.func50, Tryz.ntmps50
  go_wp2_with (go_at_call 66; (with_reducible refine hcat.mono ?_); rintro e w5 ⟨p, c, rfl, h5, hb⟩; have H := Lib.hid (And.intro h5 hb); clear h5 hb hcat)
  go_ret
  exact ⟨p, c, rfl, H.out.1, H.out.2⟩

/-! ### Tables that were told: in blocks that add does not turn -/
theorem HRow.kc {w w' : World} {base : Nat} {e : TypeId} {size : Nat} {v : Value} {n : Nat} {xs : List Value} (h : HRow w base e size v n xs) (hk : Kc w w') (h4 : e ≠ 4) (h34 : e ≠ 25) (h56 : e ≠ 63) : HRow w' base e size v n xs :=
  h.of fun k hk2 => by
    obtain ⟨_, cur, hb⟩ := h.block k hk2
    rw [hk.cells hb h4 h34 h56, hb]
def KT (w : World) (cv dv : Value) (t : T) : Prop := ∃ base ps, OwnT w base cv dv t ps
section
variable {w w' : World} {cv dv : Value} {t : T}
theorem KT.kc (h : KT w cv dv t) (hk : Kc w w') : KT w' cv dv t := by
  obtain ⟨base, ps, h⟩ := h
  exact ⟨base, ps, h.c.kc hk (by decide) (by decide) (by decide), h.n, h.d.kc hk (by decide) (by decide) (by decide), fun j a b => (h.l j a b).kc hk (by decide) (by decide) (by decide)⟩
theorem KT.rd (h : KT w cv dv t) : RdT w cv dv t := by
  obtain ⟨base, ps, h⟩ := h
  exact h.rd
theorem KT.later (h : KT w cv dv t) (hb : Below w.heap.size w w') : KT w' cv dv t := h.kc (.below hb)
end
set_option maxRecDepth 100000 in
set_option maxHeartbeats 1000000 in
theorem sFind_own {pv : Value} {ts : List T} {x : ByteArray} {W : World} {t : T} {ok : Bool} (h : SchP W pv ts) (hf : AllFew ts) (ht : orT (findT ts x) = t) (hok : hasT ts x = ok) : Calls Tryz.prog 46 #[pv, .string x] W fun e w' => ∃ p1 n1 c1 p2 n2 c2, e = .returned (.tuple #[.agg #[.string t.nm, .slice p1 n1 c1, .string t.key, .slice p2 n2 c2], .bool ok]) ∧ KT w' (.slice p1 n1 c1) (.slice p2 n2 c2) t ∧ Below W.heap.size W w' := by
  have hfew := few_find hf x
  have hB0 := below_alloc W (boxT e0 (.slice none 0 0) e0 (.slice none 0 0))
  have h0 := heap_alloc_new W (boxT e0 (.slice none 0 0) e0 (.slice none 0 0))
  have hfi := sfind_any (x := x) (h.later hB0)
  rw [ht] at hfi hfew
  rw [hok] at hfi
  obtain ⟨S, hS⟩ : ∃ S, W.heap.size = S := ⟨_, rfl⟩
  obtain ⟨w0, hw0⟩ : ∃ w0, W.alloc (boxT e0 (.slice none 0 0) e0 (.slice none 0 0)) = w0 := ⟨_, rfl⟩
  rw [hw0] at hB0 h0 hfi
  rw [hS] at h0
  have HB := Lib.hid (And.intro hB0 (And.intro h0 hfew))
  have HW := Lib.hid hw0
  have HS := Lib.hid hS
  clear h hf hw0 hS hB0 h0 hfew ht hok
  go_enter Tryz.func46, Tryz.ntmps46
  go_upto_region 1 with fail
  rw [HW.out, HS.out]
  go_wp2_with (first
    | (go_at_call 68; (with_reducible refine hfi.mono ?_); rintro e w1 ⟨p1, n1, c1, p2, n2, c2, rfl, hr, hb⟩; have hb1 := below_alloc w1 (boxT t.nm (.slice p1 n1 c1) t.key (.slice p2 n2 c2)); have hcp := copied_any (hr.later hb1) HB.out.2.2; have H1 := Lib.hid (And.intro hb hb1); clear hb hb1 hr hfi)
    | (go_at_call 39; (with_reducible refine hcp.mono ?_); rintro e w2 ⟨q1, d1, q2, d2, ps, rfl, hO, hb2⟩; have hres := heap_on hb2 (heap_on H1.out.2 (heap_on H1.out.1 HB.out.2.1)); have z0 := nd_cell hres 0; have z1 := nd_cell hres 1; have z2 := nd_cell hres 2; have z3 := nd_cell hres 3; have zf := fun i => frozen_of_row w2 S i _ _ hres; have zl := lt_of_heap hres; have H2 := Lib.hid (And.intro hO (And.intro (below_on (below_on (below_on HB.out.1 H1.out.1) H1.out.2) hb2) hres)); clear hO hb2 hcp hres))
  have hlt1 : S < w1.heap.size := Nat.lt_of_lt_of_le (lt_of_heap HB.out.2.1) H1.out.1.size
  have hS4 := set4 H2.out.2.2 (.string t.nm) (.slice q1 t.cols.length d1) (.string t.key) (.slice q2 t.deps.length d2)
  have hBx := below_set4 H2.out.2.1 (Nat.le_of_eq HS.out) (.string t.nm) (.slice q1 t.cols.length d1) (.string t.key) (.slice q2 t.deps.length d2)
  have hO := H2.out.1.of (fun q hq => set4_other w2 S q (by rw [World.size_alloc] at hq; omega) (.string t.nm) (.slice q1 t.cols.length d1) (.string t.key) (.slice q2 t.deps.length d2))
  generalize (((w2.setCell _ _).setCell _ _).setCell _ _).setCell _ _ = wz at hS4 hBx hO ⊢
  have y0 := nd_cell hS4 0
  have y1 := nd_cell hS4 1
  have y2 := nd_cell hS4 2
  have y3 := nd_cell hS4 3
  refine bodyPost_ret (v := .tuple #[.agg #[.string t.nm, (.slice q1 t.cols.length d1), .string t.key, (.slice q2 t.deps.length d2)], .bool ok]) (by simp [results, Tryz.results46, go_sem, y0, y1, y2, y3]) rfl ?_
  exact ⟨_, _, _, _, _, _, rfl, ⟨_, _, hO⟩, hBx⟩

section
variable {W : World} {kb : Nat} {pv : Value} {tb : ByteArray} {qs ss : List (List ByteArray)} {w w' : World} {a : List ByteArray} {va cv dv : Value} {t : T}
theorem colsW_succ {cs : List C} {j : Nat} (h : j < cs.length) : colsW qs ss a (cs.take (j + 1)) = addW qs (colsW qs ss a (cs.take j)) (a ++ [cs[j].nm]) := by
  unfold colsW addsW
  rw [List.take_succ_eq_append_getElem h, List.map_append, List.foldl_append]
  rfl
set_option maxRecDepth 100000 in
set_option maxHeartbeats 4000000 in
theorem kcols_any (h : KN W kb pv tb qs ss w) (hT : KT w cv dv t) (ha : Wd w va a) (hl : a.length ≤ 4) (hf : FewQ qs) : Calls Tryz.prog 47 #[(Value.pointer (some ⟨kb, 0, none⟩)), va, .agg #[.string t.nm, cv, .string t.key, dv]] w fun e w' => e = .returned (.tuple #[]) ∧ KN W kb pv tb qs (colsW qs ss a t.cols) w' ∧ Kc w w' := by
  obtain ⟨pa, ca, rfl, _, _⟩ := ha.slice
  obtain ⟨pc, kc, rfl, hc1, hc2⟩ := hT.rd.1.slice
  obtain ⟨pd, kd, rfl, hd1, hd2⟩ := hT.rd.2.slice
  have hb0 := below_alloc w (boxT t.nm (.slice pc t.cols.length kc) t.key (.slice pd t.deps.length kd))
  have hx0 := heap_alloc_new w (boxT t.nm (.slice pc t.cols.length kc) t.key (.slice pd t.deps.length kd))
  have H0 := Lib.hid (And.intro (h.on hb0) (And.intro (hT.later hb0) (And.intro (ha.later hb0) (Kc.below hb0))))
  obtain ⟨S, hS⟩ : ∃ x, w.heap.size = x := ⟨_, rfl⟩
  obtain ⟨w0, hw0⟩ : ∃ x, w.alloc (boxT t.nm (.slice pc t.cols.length kc) t.key (.slice pd t.deps.length kd)) = x := ⟨_, rfl⟩
  have HW := Lib.hid (And.intro hw0 hS)
  rw [hw0] at H0 hx0
  rw [hS] at hx0
  obtain ⟨nm, hnm⟩ : ∃ x, t.nm = x := ⟨_, rfl⟩
  obtain ⟨key, hkey⟩ : ∃ x, t.key = x := ⟨_, rfl⟩
  obtain ⟨n, hn⟩ : ∃ x, t.cols.length = x := ⟨_, rfl⟩
  obtain ⟨nd, hnd⟩ : ∃ x, t.deps.length = x := ⟨_, rfl⟩
  obtain ⟨la, hla⟩ : ∃ x, a.length = x := ⟨_, rfl⟩
  rw [hnm, hkey, hn, hnd] at hx0
  rw [hnm, hkey, hn, hnd] at HW
  rw [hn] at hc1
  rw [hn, hnd, hla] at H0
  rw [hnm, hkey, hn, hnd, hla]
  have HN := Lib.hid (And.intro hn (And.intro hla (And.intro hl hf)))
  unfold maxLen at hc2
  have u1 := nd_cell hx0 1
  have ul := lt_of_heap hx0
  have HX := Lib.hid hx0
  clear h hT ha hf hl hb0 hw0 hS hnm hkey hn hnd hla hd1 hd2 hx0
  go_enter Tryz.func47, Tryz.ntmps47
  go_upto_region 1 with fail
  rw [HW.out.1, HW.out.2]
  go_wp2_with fail
  go_loopg [11] (n + 1) (fun gh jv w => ∃ (j : Nat), jv = .int .i64 (j : Int) ∧ j ≤ n ∧ n + 1 ≤ j + gh ∧ KN W kb pv tb qs (colsW qs ss a (t.cols.take j)) w ∧ Kc w0 w)
  case atStart => exact ⟨0, rfl, Nat.zero_le _, by omega, H0.out.1, Kc.refl _⟩
  case round =>
    obtain ⟨j, rfl, hj, hg, hK, hkc⟩ := hrel
    have HK := Lib.hid (And.intro hK hkc)
    clear u1 ul
    by_cases hlt : j < n
    · have hjl : j < t.cols.length := by rw [HN.out.1]; exact hlt
      obtain ⟨bc, oc, rfl, hbc, c0, c1, c2, c3⟩ := RdC.col (HN.out.1 ▸ (H0.out.2.1.kc hkc).rd.1) hjl
      have hsucc := colsW_succ (qs := qs) (ss := ss) (a := a) hjl
      obtain ⟨d, hd⟩ : ∃ d, t.cols[j] = d := ⟨_, rfl⟩
      rw [hd] at c0 c1 c2 c3 hsucc
      obtain ⟨x, kd2, mu, tg⟩ := d
      simp only [] at c0 c1 c2 c3 hsucc
      have hb6 := below_alloc wr (.cells #[.string x, .int .i64 kd2, .bool mu, .string tg] 54)
      have hx6 := heap_alloc_new wr (.cells #[.string x, .int .i64 kd2, .bool mu, .string tg] 54)
      have hK6 := hK.on hb6
      have hkc6 := hkc.trans (.below hb6)
      obtain ⟨B3, hBB⟩ : ∃ y, wr.heap.size = y := ⟨_, rfl⟩
      obtain ⟨w3, hw3⟩ : ∃ y, wr.alloc (.cells #[.string x, .int .i64 kd2, .bool mu, .string tg] 54) = y := ⟨_, rfl⟩
      have HW3 := Lib.hid (And.intro hw3 hBB)
      rw [hw3] at hx6 hK6 hkc6
      rw [hBB] at hx6
      have hwa := H0.out.2.2.1
      have hwa3 : Wd w3 (.slice pa la ca) a := hwa.kp hkc6.kp9
      obtain ⟨l2, hl2⟩ : ∃ l2, a ++ [x] = l2 := ⟨_, rfl⟩
      obtain ⟨m2, hm2⟩ : ∃ m2, l2.length = m2 := ⟨_, rfl⟩
      have hstep := kstep_is hwa3 HN.out.2.2.1 hl2 hm2
      have HS := Lib.hid (And.intro hsucc (And.intro hl2 hm2))
      have H6 := Lib.hid (And.intro hK6 hkc6)
      have u0 := nd_cell hx6 0
      have ul := lt_of_heap hx6
      have hji : (j : Int) < (n : Int) := by omega
      clear hK hkc hb6 hK6 hkc6 hw3 hBB hwa hwa3 hsucc hl2 hm2 hd hjl hbc hx6
      go_upto_region 4 with fail
      rw [HW3.out.1, HW3.out.2]
      clear c0 c1 c2 c3
      go_wp2_with (first
        | (go_at_call 50; (with_reducible refine hstep.mono ?_); rintro e w4 ⟨p4, c4, rfl, h4, hb4⟩; have hadd := kadd_any (H6.out.1.on hb4) h4 HN.out.2.2.2; have H4 := Lib.hid (H6.out.2.trans (.below hb4)); clear h4 hb4 hstep)
        | (go_at_call 31; (with_reducible refine hadd.mono ?_); rintro e w5 ⟨rfl, h5, hkc5⟩; have H5 := Lib.hid (And.intro h5 (H4.out.trans hkc5)); clear h5 hkc5 hadd))
      go_roundg (n - j)
      case measure => omega
      case rel => exact ⟨j + 1, by go_num, by omega, by omega, by rw [HS.out.1, HS.out.2.1]; exact H5.out.1, H5.out.2⟩
    · obtain rfl : j = n := by omega
      go_wp2_with fail
      go_end0
      have e : t.cols.take j = t.cols := List.take_of_length_le (by rw [HN.out.1]; exact Nat.le_refl _)
      rw [e] at HK
      exact ⟨rfl, HK.out.1, H0.out.2.2.2.trans HK.out.2⟩
end
end Go.Proofs.YtmfkkpogmmoflaaGreat
