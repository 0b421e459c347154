/- Add. -/
import Derived.Test.YtcgceigcegddlaaHE
namespace Go.Proofs.Ytcgceigcegddlaa
open Go Go.RowKit Go.Proofs

theorem RdT.mk {W : World} {cv dv : Value} {t : T} (h : RdC W cv t.cols) (k : RdD W dv t.deps) : RdT W cv dv t := ⟨h, k⟩
theorem few_of {ts : List T} {t : T} (h : mayP ts t = 0) : Few t := by
  obtain ⟨h1, h2, _, _⟩ := mayP_zero h
  unfold lim at h1
  simp only [Bool.or_eq_false_iff, decide_eq_false_iff_not] at h1
  unfold namesGood at h2
  simp only [Bool.and_eq_true] at h2
  refine ⟨by omega, by omega, fun d hd => ?_⟩
  have h3 := h2.2.2.2
  obtain ⟨j, hj, rfl⟩ := List.getElem_of_mem hd
  unfold depsGood at h3
  rw [List.all_eq_true] at h3
  have := h3 j (List.mem_range.2 hj)
  unfold depAt at this
  rw [List.getElem?_eq_getElem hj] at this
  simp only at this
  unfold depGood leftGood at this
  simp only [Bool.and_eq_true, decide_eq_true_eq] at this
  omega
theorem set_far (xs : List Value) (j i : Nat) (L : List Value) (u : Value) (h : xs.length = j) : (xs ++ L).set (j + i) u = xs ++ L.set i u := by
  rw [List.set_append_right _ _ (by omega), h, Nat.add_sub_cancel_left]
/-- Where the next table is laid. -/
theorem Sch.room {W : World} {sb : Nat} {ts : List T} (h : Sch W sb ts) {n : Nat} (hn : ts.length = n) (h8 : n < 8) : ∃ xs a0 a1 a2 a3 r, W.heap[sb]? = some (.cells (xs ++ (a0 :: a1 :: a2 :: a3 :: (r ++ [.int .i64 n]))).toArray 74) ∧ xs.length = n * 4 ∧ n * 4 + 4 + r.length = 32 ∧ TabsC W xs ts := by
  obtain ⟨h0, xs, rest, h1, h2, h3⟩ := h
  have hx := h3.1
  rw [hn] at hx h1
  rcases rest with _ | ⟨a0, _ | ⟨a1, _ | ⟨a2, _ | ⟨a3, r⟩⟩⟩⟩
  · simp at h2; omega
  · simp at h2; omega
  · simp at h2; omega
  · simp at h2; omega
  · simp only [List.length_cons] at h2
    exact ⟨xs, a0, a1, a2, a3, r, h1, hx, by omega, h3⟩
/-- The Schema with one table more, its number not yet told. -/
theorem put4 {x : World} {sb n : Nat} {xs r : List Value} {a0 a1 a2 a3 m : Value} {t : TypeId} (h : x.heap[sb]? = some (.cells (xs ++ (a0 :: a1 :: a2 :: a3 :: (r ++ [m]))).toArray t)) (hx : xs.length = n * 4) (a c d e : Value) :
    ((((x.setCell ⟨sb, n * 4, none⟩ a).setCell ⟨sb, n * 4 + 1, none⟩ c).setCell ⟨sb, n * 4 + 2, none⟩ d).setCell ⟨sb, n * 4 + 3, none⟩ e).heap[sb]? = some (.cells (xs ++ (a :: c :: d :: e :: (r ++ [m]))).toArray t) := by
  have s0 : ((xs ++ (a0 :: a1 :: a2 :: a3 :: (r ++ [m]))).toArray.setIfInBounds (n * 4) a) = (xs ++ (a :: a1 :: a2 :: a3 :: (r ++ [m]))).toArray := by
    rw [List.setIfInBounds_toArray, show n * 4 = n * 4 + 0 from rfl, set_far xs (n * 4) 0 _ _ hx]; rfl
  have s1 : ((xs ++ (a :: a1 :: a2 :: a3 :: (r ++ [m]))).toArray.setIfInBounds (n * 4 + 1) c) = (xs ++ (a :: c :: a2 :: a3 :: (r ++ [m]))).toArray := by
    rw [List.setIfInBounds_toArray, set_far xs (n * 4) 1 _ _ hx]; rfl
  have s2 : ((xs ++ (a :: c :: a2 :: a3 :: (r ++ [m]))).toArray.setIfInBounds (n * 4 + 2) d) = (xs ++ (a :: c :: d :: a3 :: (r ++ [m]))).toArray := by
    rw [List.setIfInBounds_toArray, set_far xs (n * 4) 2 _ _ hx]; rfl
  have s3 : ((xs ++ (a :: c :: d :: a3 :: (r ++ [m]))).toArray.setIfInBounds (n * 4 + 3) e) = (xs ++ (a :: c :: d :: e :: (r ++ [m]))).toArray := by
    rw [List.setIfInBounds_toArray, set_far xs (n * 4) 3 _ _ hx]; rfl
  have h0 := heap_setCell_same x sb (n * 4) _ _ a h
  rw [s0] at h0
  have h1 := heap_setCell_same _ sb (n * 4 + 1) _ _ c h0
  rw [s1] at h1
  have h2 := heap_setCell_same _ sb (n * 4 + 2) _ _ d h1
  rw [s2] at h2
  have h3 := heap_setCell_same _ sb (n * 4 + 3) _ _ e h2
  rw [s3] at h3
  exact h3
theorem put32 {x : World} {sb : Nat} {L : List Value} {m u : Value} {t : TypeId} (h : x.heap[sb]? = some (.cells (L ++ [m]).toArray t)) (hL : L.length = 32) :
    (x.setCell ⟨sb, 32, none⟩ u).heap[sb]? = some (.cells (L ++ [u]).toArray t) := by
  have h0 := heap_setCell_same x sb 32 _ _ u h
  rw [List.setIfInBounds_toArray, show 32 = 32 + 0 from rfl, set_far L 32 0 _ _ hL] at h0
  exact h0
theorem room_cells {x : World} {sb n : Nat} {xs r : List Value} {a0 a1 a2 a3 m : Value} {t : TypeId} (h : x.heap[sb]? = some (.cells (xs ++ (a0 :: a1 :: a2 :: a3 :: (r ++ [m]))).toArray t)) (hx : xs.length = n * 4) (hr : n * 4 + 4 + r.length = 32) :
    x.cell? ⟨sb, n * 4, none⟩ = some a0 ∧ x.cell? ⟨sb, n * 4 + 1, none⟩ = some a1 ∧ x.cell? ⟨sb, n * 4 + 2, none⟩ = some a2 ∧ x.cell? ⟨sb, n * 4 + 3, none⟩ = some a3 ∧ x.cell? ⟨sb, 32, none⟩ = some m := by
  refine ⟨?_, ?_, ?_, ?_, ?_⟩ <;> rw [nd_cell h, List.getElem?_toArray, List.getElem?_append_right (by omega), hx]
  · simp
  · simp
  · simp
  · simp
  · rw [show 32 - n * 4 = r.length + 1 + 1 + 1 + 1 by omega]
    simp only [List.getElem?_cons_succ]
    rw [List.getElem?_append_right (Nat.le_refl _), Nat.sub_self]; rfl

/-- What lies behind the two calls. -/
theorem add_mid {w1 y2 y3 : World} {sb : Nat} {ts : List T} {t : T} {n m : Nat} {p1 : Option Addr} {c1 : Nat} {dv : Value} {ps : List Value} (hs : Sch w1 sb ts) (hb : Below w1.drew.heap.size w1.drew y2) (hO : OwnT y2 (w1.drew.heap.size + 2) (.slice p1 n c1) dv t ps)
    (hch : Chg (fun b => (Value.slice p1 n c1).ownBlock = some b) y2 y3) (hm : ts.length = m) (h8 : m < 8) : ∃ xs a0 a1 a2 a3 r, y3.heap[sb]? = some (.cells (xs ++ (a0 :: a1 :: a2 :: a3 :: (r ++ [.int .i64 m]))).toArray 74) ∧ xs.length = m * 4 ∧ m * 4 + 4 + r.length = 32 ∧ TabsC y3 xs ts ∧ Below w1.heap.size w1 y3 := by
  have h2 : Below w1.drew.heap.size y2 y3 := hch.below hb.size (fun b hb h => by have := (hO.c.lt b h).1; omega)
  have h3 : Below w1.drew.heap.size w1.drew y3 := hb.trans h2
  have h4 : Below w1.heap.size w1 y3 := below_on (below_drew w1) h3
  obtain ⟨xs, a0, a1, a2, a3, r, k1, k2, k3, k4⟩ := (hs.later h4).room hm h8
  exact ⟨xs, a0, a1, a2, a3, r, k1, k2, k3, k4, h4⟩
/-- A block of tables, or of a Schema, is turned, and no other. -/
theorem kp_one {x y : World} {b : Nat} {cur : Array Value} {e : TypeId} {f : Nat × Nat} (h : x.heap[b]? = some (.cells cur e f)) (he : e = 74 ∨ e = 53) (ho : ∀ q : Nat, q ≠ b → y.heap[q]? = x.heap[q]?) : Kp x y := by
  intro q cur' e' m hq h1 h2
  have hne : q ≠ b := by
    rintro rfl
    rw [h] at hq
    cases hq
    rcases he with rfl | rfl
    · exact h1 rfl
    · exact h2 rfl
  rw [ho q hne]
  exact hq
theorem add_end {W y3 : World} {sb base m : Nat} {ts : List T} {t : T} {cv dv : Value} {ps xs r : List Value} {a0 a1 a2 a3 : Value} {m1 : Int} (hO : OwnT y3 base cv dv (formT t) ps) (hk : y3.heap[sb]? = some (.cells (xs ++ (a0 :: a1 :: a2 :: a3 :: (r ++ [.int .i64 m]))).toArray 74)) (hx : xs.length = m * 4) (hr : m * 4 + 4 + r.length = 32)
    (ht : TabsC y3 xs ts) (hb : Below W.heap.size W y3) (hm : ts.length = m) (h8 : m < 8) (hm1 : m1 = (m : Int) + 1) :
    Sch ((((((y3.setCell ⟨sb, m * 4, none⟩ (.string t.nm)).setCell ⟨sb, m * 4 + 1, none⟩ cv).setCell ⟨sb, m * 4 + 2, none⟩ (.string t.key)).setCell ⟨sb, m * 4 + 3, none⟩ dv)).setCell ⟨sb, 32, none⟩ (.int .i64 m1)) sb (ts ++ [formT t]) ∧
      Chg (fun b => b = sb) W ((((((y3.setCell ⟨sb, m * 4, none⟩ (.string t.nm)).setCell ⟨sb, m * 4 + 1, none⟩ cv).setCell ⟨sb, m * 4 + 2, none⟩ (.string t.key)).setCell ⟨sb, m * 4 + 3, none⟩ dv)).setCell ⟨sb, 32, none⟩ (.int .i64 m1)) := by
  have hc : ∀ (y : World) (i : Nat) (u : Value), Chg (fun b => b = sb) W y → Chg (fun b => b = sb) W (y.setCell ⟨sb, i, none⟩ u) := fun y i u h => h.setCell (p := ⟨sb, i, none⟩) (fun _ => rfl) u
  have h4 := put4 hk hx (.string t.nm) cv (.string t.key) dv
  have e : (xs ++ (Value.string t.nm :: cv :: Value.string t.key :: dv :: (r ++ [Value.int .i64 (m : Int)]))) = ((xs ++ [Value.string t.nm, cv, Value.string t.key, dv]) ++ r) ++ [Value.int .i64 (m : Int)] := by simp
  rw [e] at h4
  have h5 := put32 (u := .int .i64 m1) h4 (by simp; omega)
  have ho : ∀ q : Nat, q ≠ sb → ((((((y3.setCell ⟨sb, m * 4, none⟩ (.string t.nm)).setCell ⟨sb, m * 4 + 1, none⟩ cv).setCell ⟨sb, m * 4 + 2, none⟩ (.string t.key)).setCell ⟨sb, m * 4 + 3, none⟩ dv)).setCell ⟨sb, 32, none⟩ (.int .i64 m1)).heap[q]? = y3.heap[q]? := fun q hq => by
    have hs : ∀ (y : World) (i : Nat) (u : Value), (y.setCell ⟨sb, i, none⟩ u).heap[q]? = y.heap[q]? := fun y i u => heap_setCell_other y ⟨sb, i, none⟩ q u hq
    rw [hs, hs, hs, hs, hs]
  have hkp := kp_one hk (.inl rfl) ho
  refine ⟨⟨by have := h8; simp; omega, xs ++ [.string t.nm, cv, .string t.key, dv], r, ?_, by simp; omega, ?_⟩, hc _ _ _ (hc _ _ _ (hc _ _ _ (hc _ _ _ (hc _ _ _ (Chg.of_below hb)))))⟩
  · rw [h5, List.append_assoc, List.length_append, hm, hm1]
    rfl
  · exact (ht.kp hkp).snoc (hO.rd.kp hkp)
set_option maxRecDepth 100000 in
set_option maxHeartbeats 4000000 in
theorem add_any {t : T} {cv dv : Value} {sb : Nat} {ts : List T} {W : World} (h : RdT W cv dv t) (hs : Sch W sb ts) (hsm : Sm t) : Calls Try.prog 26 #[(Value.pointer (some ⟨sb, 0, none⟩)), .agg #[.string t.nm, cv, .string t.key, dv]] W fun e w' => e = .returned (.int .i64 (mayP ts t)) ∧ Sch w' sb (addT ts t) ∧ Chg (fun b => b = sb) W w' := by
  have hB0 := below_alloc W (boxT t.nm cv t.key dv)
  have h0 := heap_alloc_new W (boxT t.nm cv t.key dv)
  have hm := may_any (h.later hB0) (hs.later hB0) hsm
  obtain ⟨S, hS⟩ : ∃ S, W.heap.size = S := ⟨_, rfl⟩
  obtain ⟨w0, hw0⟩ : ∃ w0, W.alloc (boxT t.nm cv t.key dv) = w0 := ⟨_, rfl⟩
  rw [hw0] at hB0 h0 hm
  rw [hS] at h0
  obtain ⟨pc, cc, hcv, _, _⟩ := h.1.slice
  obtain ⟨p, cap, hdv, _, _⟩ := h.2.slice
  obtain ⟨n, hn⟩ : ∃ n, t.cols.length = n := ⟨_, rfl⟩
  obtain ⟨nd, hnd⟩ : ∃ n, t.deps.length = n := ⟨_, rfl⟩
  have HB := Lib.hid (And.intro hB0 (And.intro h0 (And.intro h hs)))
  rw [hn] at hcv
  rw [hnd] at hdv
  have HW := Lib.hid hw0
  have HS := Lib.hid hS
  have z0 := nd_cell h0 0
  have z1 := nd_cell h0 1
  have z2 := nd_cell h0 2
  have z3 := nd_cell h0 3
  have zl := lt_of_heap h0
  subst hcv hdv
  clear h hs hw0 hS hB0 h0
  by_cases hz : mayP ts t = 0
  · have hf := few_of hz
    have h8 : ts.length < 8 := by
      have := (mayP_zero hz).1
      unfold lim at this
      simp only [Bool.or_eq_false_iff, decide_eq_false_iff_not] at this
      omega
    have HZ : Hid (mayP ts t = 0 ∧ addT ts t = ts ++ [formT t]) := Lib.hid ⟨hz, by unfold addT; rw [if_pos hz]⟩
    obtain ⟨m, hml⟩ : ∃ m, ts.length = m := ⟨_, rfl⟩
    rw [hml] at h8
    rw [hz] at hm
    have HF := Lib.hid (And.intro hf (And.intro hml (And.intro hn hnd)))
    clear hz hf hml hn hnd hsm
    go_enter Try.func26, Try.ntmps26
    go_upto_region 3 with fail
    rw [HW.out, HS.out]
    go_upto_region 6 with (go_at_call 41; (with_reducible refine hm.mono ?_); rintro e w1 ⟨rfl, hb1⟩)
    have hs1 := (HB.out.2.2.2.later (HB.out.1)).later hb1
    have hbx := heap_on hb1 HB.out.2.1
    have hr1 := (HB.out.2.2.1.later (HB.out.1)).later hb1
    have hcp := copied_any (hr1.later (below_drew w1)) HF.out.1
    rw [HF.out.2.2.1, HF.out.2.2.2] at hcp
    have ent27 : ∀ a w, (callFunc 43 a).run Try.prog w = .ok (.enter 43 a) w := by intro a w; rfl
    have ent26 : ∀ a w, (callFunc 42 a).run Try.prog w = .ok (.enter 42 a) w := by intro a w; rfl
    clear z0 z1 z2 z3 zl hm
    have z0 := nd_cell hbx 0
    have z1 := nd_cell hbx 1
    have z2 := nd_cell hbx 2
    have z3 := nd_cell hbx 3
    have zl := lt_of_heap hbx
    obtain ⟨v0, v1⟩ := hs1.num
    rw [HF.out.2.1] at v1
    have H1 := Lib.hid (And.intro hs1 (below_on HB.out.1 hb1))
    have hm8 : (m : Int) < 8 := by omega
    clear hs1 hb1 hr1 hbx
    go_region_law (first
      | (refine step_call ent27 [.agg #[.string t.nm, .slice pc n cc, .string t.key, .slice p nd cap]] (by simp [Act.eval]) ?_; (with_reducible refine Calls.mono hcp ?_); rintro e y2 ⟨p1, c1, p2, c2, ps, rfl, hO, hb2⟩; have hkm := keyMust_any hO HF.out.1.1; have hs2 := (H1.out.1.later (below_drew w1)).later hb2; have hv2 := hs2.num; rw [HF.out.2.1] at hv2; obtain ⟨v2, v3⟩ := hv2; have H2 := Lib.hid (And.intro hs2 (And.intro hb2 hO)); clear hs2 hb2 hO hcp; refine ⟨_, rfl, ?_⟩)
      | (refine step_call ent26 [.agg #[.string t.nm, .slice p1 n c1, .string t.key, .slice p2 nd c2]] (by simp [Act.eval]) ?_; (with_reducible refine Calls.mono hkm ?_); rintro e y3 ⟨rfl, hO3, hch⟩; obtain ⟨xs, a0, a1, a2, a3, r, hk3, hx3, hl3, ht3, hb3⟩ := add_mid H1.out.1 H2.out.2.1 H2.out.2.2 hch HF.out.2.1 h8; obtain ⟨q0, q1, q2, q3, q4⟩ := room_cells hk3 hx3 hl3; have qf := fun i => frozen_of_row y3 sb i _ _ hk3; have ql := lt_of_heap hk3; have H3 := Lib.hid (And.intro hO3 (And.intro hk3 (And.intro hx3 (And.intro hl3 (And.intro ht3 hb3))))); clear hO3 hch hk3 hx3 hl3 ht3 hb3 hkm; refine ⟨_, rfl, ?_⟩))
    all_goals
      have hfin := fun (m1 : Int) (hm1 : m1 = (m : Int) + 1) => add_end (W := W) H3.out.1 H3.out.2.1 H3.out.2.2.1 H3.out.2.2.2.1 H3.out.2.2.2.2.1 (below_on H1.out.2 H3.out.2.2.2.2.2) HF.out.2.1 h8 hm1
      have hb4 := put4 H3.out.2.1 H3.out.2.2.1 (.string t.nm) (.slice p1 n c1) (.string t.key) (.slice p2 nd c2)
      clear q0 q1 q2 q3 q4 qf ql v1 v3 z0 z1 z2 z3
      generalize (((y3.setCell _ _).setCell _ _).setCell _ _).setCell _ _ = wz at hfin hb4 ⊢
      obtain ⟨_, _, _, _, q4⟩ := room_cells hb4 H3.out.2.2.1 H3.out.2.2.2.1
      have qf := fun i => frozen_of_row wz sb i _ _ hb4
      have ql := lt_of_heap hb4
      have HFin := Lib.hid hfin
      clear hfin hb4
      go_wp2_with fail
      go_ret
      exact ⟨ret_int HZ.out.1.symm, by rw [HZ.out.2]; exact (HFin.out _ rfl).1, (HFin.out _ rfl).2⟩
  · have HZ : Hid (addT ts t = ts) := Lib.hid (by unfold addT; rw [if_neg hz])
    have HFin := Lib.hid (fun (w1 : World) (hb1 : Below w0.heap.size w0 w1) => And.intro ((HB.out.2.2.2.later HB.out.1).later hb1) (below_on HB.out.1 hb1))
    have hne : (mayP ts t != 0) = true := by simp [hz]
    obtain ⟨z, hzz⟩ : ∃ z, mayP ts t = z := ⟨_, rfl⟩
    rw [hzz] at hm hne ⊢
    clear hz hzz hsm
    go_enter Try.func26, Try.ntmps26
    go_upto_region 3 with fail
    rw [HW.out, HS.out]
    go_wp2_with (go_at_call 41; (with_reducible refine hm.mono ?_); rintro e w1 ⟨rfl, hb1⟩)
    go_ret
    exact ⟨rfl, by rw [HZ.out]; exact (HFin.out _ hb1).1, Chg.of_below (HFin.out _ hb1).2⟩
end Go.Proofs.Ytcgceigcegddlaa
