/- Set, where it may be. -/
import Derived.Test.YtglfmbpcapendaaO6
namespace Go.Proofs.Ytglfmbpcapendaa.S
open Go Go.RowKit Go.Shelf Go.Proofs Go.Proofs.Ytglfmbpcapendaa
section
variable {cb : Nat} {kind n : Int} {v : Value} {L : List (K 12 × Int)} {W0 W W' : World}

/-- A row with its i-th value written over. -/
theorem row_set {w : World} {base g cap m : Nat} {l : List T3} (h : HRow w base 28 3 (.slice (some ⟨g, 0, none⟩) m cap) m (cells3 l)) (hm : l.length = m) (i : Nat) (hi : i < m) (k n1 : Int) (s : ByteArray) :
    HRow (((w.setCell ⟨g, i * 3, none⟩ (.int .i64 k)).setCell ⟨g, i * 3 + 1, none⟩ (.int .i64 n1)).setCell ⟨g, i * 3 + 2, none⟩ (.string s)) base 28 3 (.slice (some ⟨g, 0, none⟩) m cap) m (cells3 (l.set i (k, n1, s))) ∧
      w.grownBy (((w.setCell ⟨g, i * 3, none⟩ (.int .i64 k)).setCell ⟨g, i * 3 + 1, none⟩ (.int .i64 n1)).setCell ⟨g, i * 3 + 2, none⟩ (.string s)) (some g) := by
  rw [cells3_set l i (by omega)]
  obtain ⟨a, b⟩ := h.stored (i * 3) (.int .i64 k)
  obtain ⟨c, d⟩ := a.stored (i * 3 + 1) (.int .i64 n1)
  obtain ⟨e, f⟩ := c.stored (i * 3 + 2) (.string s)
  refine ⟨e, ⟨rfl, rfl, rfl, by simp [World.setCell], fun q hq hn => ?_⟩⟩
  exact (f.block q (Nat.lt_of_lt_of_le hq (Nat.le_trans b.size d.size)) hn).trans ((d.block q (Nat.lt_of_lt_of_le hq b.size) hn).trans (b.block q hq hn))

set_option maxRecDepth 100000 in
set_option maxHeartbeats 2000000 in
theorem set_yes {l : List T3} (h : Cm cb kind v n L W0 W) (hr : HRow W (cb + 1) 28 3 v l.length (cells3 l)) (hll : l.length ≤ 1000) (i : Nat) (hi : i < l.length) (x : T3) (hs : x.2.2.size ≤ maxLen) (hi1 : inC kind x = true) (hi2 : inC kind l[i] = true)
    (hn : 0 ≤ n ∧ n ≤ 1000000) (hn1 : (l[i]).1 = 0 → 1 ≤ n) (hl : L.length + 1 ≤ 999999) (ht : ∀ s, 0 ≤ tm s L ∧ tm s L + 1 ≤ 1000000) :
    Calls Try.prog 11 #[(Value.pointer (some ⟨cb, 0, none⟩)), (Value.int .i64 ((i : Int))), (Value.agg #[Value.int .i64 (x.1), Value.int .i64 (x.2.1), Value.string (x.2.2)])] W fun e w' => e = .returned (.bool true) ∧ Cm cb kind v (nUp (nDn n l[i]) x) (lUp (lDn L l[i]) x) W0 w' ∧ HRow w' (cb + 1) 28 3 v (l.set i x).length (cells3 (l.set i x)) ∧ Chg (fun b => b = cb ∨ v.ownBlock = some b) W w' := by
  have hun := fun (y : World) (hy : Cm cb kind v n L W0 y) => uncount_any hy l[i] (inC_size hi2) hn.2 hn1 hl
  have hsr := h.dm.srt
  have hnn : 0 ≤ nDn n l[i] ∧ nDn n l[i] ≤ 1000000 := by unfold nDn; split <;> omega
  have hc := fun (y : World) (hy : Cm cb kind v (nDn n l[i]) (lDn L l[i]) W0 y) => ccount_any hy x (inC_size hi1) hnn (by have := len_lDn l[i] hsr; omega) (fun s => by have := tm_lDn s l[i] hsr (fun s => (ht s).1); have := (ht s).2; omega)
  have hat := fun (y : World) (hy : Cm cb kind v n L W0 y) (hr : HRow y (cb + 1) 28 3 v l.length (cells3 l)) => at_in hy hr i hi
  have hlen : (l.set i x).length = l.length := by simp
  rw [hlen]
  generalize nUp (nDn n l[i]) x = n' at hc ⊢
  generalize lUp (lDn L l[i]) x = L' at hc ⊢
  generalize nDn n l[i] = n0 at hun hc hnn
  generalize lDn L l[i] = L0 at hun hc
  generalize l[i] = y at hun hat
  obtain ⟨yk, yn, ys⟩ := y
  obtain ⟨g, cap, rfl, hnc, _⟩ := hr.slice (by omega)
  obtain ⟨k, n1, s⟩ := x
  have htk := fun z (hz : Cm cb kind (.slice (some ⟨g, 0, none⟩) l.length cap) n L W0 z) => takes_any hz k n1 s hs
  rw [hi1] at htk
  obtain ⟨m, hm⟩ : ∃ m, l.length = m := ⟨_, rfl⟩
  rw [hm] at h hr hi hnc hat htk hun hc ⊢
  have hnew := heap_alloc_new W (.cells #[.int .i64 k, .int .i64 n1, .string s] 28)
  have hba := below_alloc W (.cells #[.int .i64 k, .int .i64 n1, .string s] 28)
  obtain ⟨B, hB⟩ : ∃ B, W.heap.size = B := ⟨_, rfl⟩
  have hat0 := hat _ (h.later hba) (hr.later hba)
  rw [hB] at hnew hba
  have hlt := h.lt
  rw [hB] at hlt
  have HF := Lib.hid (And.intro hnew (And.intro hba (And.intro h hr)))
  have hgB : g < B := by rw [← hB]; exact (hr.lt g rfl).2
  have hgc : cb + 1 ≤ g := (hr.lt g rfl).1
  have q1 : (i : Int) < (m : Int) := by omega
  have HI := Lib.hid (And.intro hi hm)
  have hLW : ∀ y, Below B W y → Cm cb kind (.slice (some ⟨g, 0, none⟩) m cap) n L W0 y ∧ HRow y (cb + 1) 28 3 (.slice (some ⟨g, 0, none⟩) m cap) m (cells3 l) := fun y hy => ⟨h.later (hB.symm ▸ hy), hr.later (hB.symm ▸ hy)⟩
  clear hnew hba hi1 hi2 hlen hnn ht hn1 hn hsr hat h hr hnc hl
  go_enter Try.func11, Try.ntmps11
  go_wp2_with (first
    | (go_at_call 12; (with_reducible refine hat0.mono ?_); rintro e x1 ⟨rfl, b1⟩; have hb1 : Below B W x1 := HF.out.2.1.trans (b1.mono (by rw [← hB]; simp)); have bx : x1.heap[B]? = some (.cells #[.int .i64 k, .int .i64 n1, .string s] 28) := (b1.block B (by simp; omega)).trans HF.out.1; have b0 := nd_cell bx 0; have b1' := nd_cell bx 1; have b2 := nd_cell bx 2; have hlt1 := lt_of_heap bx; have hnew1 := heap_alloc_new x1 (.cells #[.int .i64 yk, .int .i64 yn, .string ys] 28); obtain ⟨C, hC⟩ : ∃ C, x1.heap.size = C := ⟨_, rfl⟩; rw [hC] at hnew1 hlt1; have HX := Lib.hid (And.intro hnew1 (And.intro hb1 bx)); clear hnew1 bx b1)
    | (go_at_call 19; (with_reducible refine (htk _ (hLW _ (hb1.alloc (by omega) _)).1).mono ?_); rintro e x2 ⟨rfl, b2x⟩; have hb2 : Below B W x2 := (hb1.alloc (by omega) _).trans (b2x.mono (by simp; omega)); have bC2 : x2.heap[C]? = some (.cells #[.int .i64 yk, .int .i64 yn, .string ys] 28) := (b2x.block C (by simp; omega)).trans HX.out.1; have bB2 : x2.heap[B]? = some (.cells #[.int .i64 k, .int .i64 n1, .string s] 28) := (b2x.block B (by simp; omega)).trans ((Below.heap_alloc _ _ _ (by omega)).trans HX.out.2.2); have e0 := nd_cell bC2 0; have e1 := nd_cell bC2 1; have e2 := nd_cell bC2 2; have f0 := nd_cell bB2 0; have f1 := nd_cell bB2 1; have f2 := nd_cell bB2 2; obtain ⟨h2, r2⟩ := hLW x2 hb2; have c1 := h2.c1; obtain ⟨z0, z1, z2⟩ := cells3_at l i (by omega); have w0 := r2.cell z0; have w1 := r2.cell z1; have w2 := r2.cell z2; have y0 := r2.frozenAt (i * 3); have y1 := r2.frozenAt (i * 3 + 1); have y2 := r2.frozenAt (i * 3 + 2); have HY := Lib.hid (And.intro h2 (And.intro r2 (And.intro hb2 (And.intro bC2 bB2)))); clear h2 r2 b2x bC2 bB2 z0 z1 z2 hb1 b0 b1' b2 hb2))
  have hxw : cb < x2.heap.size := HY.out.1.lt
  refine Par.wp_region_par 6 [.pointer (some ⟨cb, 0, none⟩), .pointer (some ⟨cb, 0, none⟩), .pointer (some ⟨cb, 1, none⟩), .slice (some ⟨g, 0, none⟩) m cap, .int .i64 (i : Int), .agg #[.int .i64 k, .int .i64 n1, .string s]] (fun w => w = x2.drew) ?A1 ?hm1 ?hB1 ?hA1 rfl ?hop1 ?hT1
  case hm1 => kernel_rfl
  case hB1 => kernel_rfl
  case hA1 =>
    simp only [Par.putA, Par.dstAt, Act.put, List.getElem?_toArray, List.getElem?_cons_zero, List.getElem?_cons_succ, Option.bind_some, List.setIfInBounds_toArray, List.set_cons_zero, List.set_cons_succ, List.getD_cons_zero, List.getD_cons_succ]
    rfl
  case hop1 =>
    simp only [List.take_succ_cons, List.take_zero, Par.GiveAll, and_true]
    refine ⟨fun w' hR => ?_, fun w' hR => ?_, fun w' hR => ?_, fun w' hR => ?_, fun w' hR => ?_, fun w' hR => ?_⟩
    · have HR := Lib.hid hR
      clear hR
      simp only [Par.Gives]
      go_simp
      all_goals exact HR.out
    · have HR := Lib.hid hR
      clear hR
      simp only [Par.Gives]
      go_simp
      all_goals exact HR.out
    · have HR := Lib.hid hR
      clear hR
      simp only [Par.Gives]
      go_simp
      all_goals exact HR.out
    · have HR := Lib.hid hR
      obtain rfl := hR
      simp only [Par.Gives]
      go_simp
      all_goals exact HR.out
    · have HR := Lib.hid hR
      clear hR
      simp only [Par.Gives]
      go_simp
      all_goals exact HR.out
    · have HR := Lib.hid hR
      obtain rfl := hR
      simp only [Par.Gives]
      go_simp
      all_goals exact HR.out
  case hT1 =>
    intro w' hR
    simp only [List.drop_succ_cons, List.drop_zero]
    subst hR
    obtain ⟨h2, r2, hb2, bC2, bB2⟩ := HY.out
    obtain ⟨r3, g3⟩ := row_set r2 HI.out.2 i HI.out.1 k n1 s
    have h3 := h2.other g3 (fun q hq => by cases hq; obtain ⟨q1, cur, q2⟩ := r2.block g rfl; exact ⟨by omega, cur, 28, q2, by decide⟩)
    have bC3 := (g3.block C (lt_of_heap bC2) (fun e => by cases e; omega)).trans bC2
    have bB3 := (g3.block B (lt_of_heap bB2) (fun e => by cases e; omega)).trans bB2
    have k3 : Chg (fun b => b = cb ∨ b = g) W (((x2.setCell ⟨g, i * 3, none⟩ (.int .i64 k)).setCell ⟨g, i * 3 + 1, none⟩ (.int .i64 n1)).setCell ⟨g, i * 3 + 2, none⟩ (.string s)) := (Chg.of_below (hB.symm ▸ hb2)).grown g3 (fun q hq _ => by cases hq; exact .inr rfl)
    have hcu := hun _ (h3.later (Below.refl _ _).drew)
    obtain ⟨w3, hw3⟩ : ∃ w3, ((x2.setCell ⟨g, i * 3, none⟩ (.int .i64 k)).setCell ⟨g, i * 3 + 1, none⟩ (.int .i64 n1)).setCell ⟨g, i * 3 + 2, none⟩ (.string s) = w3 := ⟨_, rfl⟩
    have HZ := Lib.hid (And.intro r3 (And.intro bC3 (And.intro bB3 k3)))
    rw [hw3] at HZ
    have a0 := nd_cell bC3 0
    have a1 := nd_cell bC3 1
    have a2 := nd_cell bC3 2
    have v0 := nd_cell bB3 0
    have v1 := nd_cell bB3 1
    have v2 := nd_cell bB3 2
    rw [hw3] at a0 a1 a2 v0 v1 v2 hcu
    have hcb : cb ≠ B := by omega
    clear h2 r2 hb2 bC2 bB2 r3 g3 h3 bC3 bB3 k3 hun
    go_wp2_with (first
      | (go_at_call 21; (with_reducible refine hcu.mono ?_); rintro e x4 ⟨rfl, d4, k4⟩; have bB4 : x4.heap[B]? = some (.cells #[.int .i64 k, .int .i64 n1, .string s] 28) := (k4.block B (lt_of_heap HZ.out.2.2.1) (fun e => hcb e.symm)).trans HZ.out.2.2.1; have t0 := nd_cell bB4 0; have t1 := nd_cell bB4 1; have t2 := nd_cell bB4 2; have hcn := hc _ d4)
      | (go_at_call 20; (with_reducible refine hcn.mono ?_); rintro e x5 ⟨rfl, d5, k5⟩))
    go_ret
    have k3 := HZ.out.2.2.2
    refine ⟨rfl, d5, ?_, ((k3.drew.trans k4 (fun _ _ x => x) (fun _ _ x => .inl x)).trans k5 (fun _ _ x => x) (fun _ _ x => .inl x)).mono (fun b _ x => x.imp id (fun e => by rw [e]; rfl))⟩
    have r4 : HRow x4 (cb + 1) 28 3 (.slice (some ⟨g, 0, none⟩) m cap) m (cells3 (l.set i (k, n1, s))) := (HZ.out.1.later (Below.refl _ w3).drew).chg (Nat.lt_succ_self cb) k4
    exact r4.chg (Nat.lt_succ_self cb) k5
end
end Go.Proofs.Ytglfmbpcapendaa.S
