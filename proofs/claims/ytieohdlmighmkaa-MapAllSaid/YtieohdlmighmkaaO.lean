import Derived.Test.YtieohdlmighmkaaN
import Derived.Test.YtieohdlmighmkaaMI
import Derived.LoopIn
import Derived.LoopNIn
import Derived.Sort.QuietTacIn
import Derived.Sort.BigQuietIn
namespace Go.Proofs.Ytieohdlmighmkaa.I
open Go Go.RowKit Go.Shelf Go.Proofs Go.Proofs.Ytieohdlmighmkaa
attribute [local go_sem] Oper.semAt_some
attribute [local go_sem] eql26n eql26f wide_fn wide_depth

theorem post_mark2 {F : Fence} {n : Nat} {P : Program} {fn : Func} {R : Ending → World → Prop} {tmps : Array Value} {w : World} {D D' : Nat} {t : Tmp} (hres : fn.results = #[.tmp t]) (hK : w.heap[D]? = some (.deferred (some [])))
    (hK' : w.heap[D']? = some (.deferred (some []))) (hne : D' ≠ D) (h : ∀ w', Chg (fun b => b = D ∨ b = D') w w' → w'.heap.size = w.heap.size → R (.returned (tmps.getD t undef)) w') :
    bodyPostM F n P fn R .ret { tmps := tmps, defers := [markAt D, markAt D'] } w := by
  have : LeavesInM F n P fn tmps R [markAt D, markAt D'] .returning w := by
    refine ⟨by simp, .inl ⟨_, _, rfl, run_takeDeferred hK, by simp, .inl ⟨_, _, rfl, run_takeDeferred ((World.putObj_heap_other hne).trans hK'), ?_⟩⟩⟩
    exact ⟨_, results_tmp hres _ _ _, h _ (((Chg.refl (fun b => b = D ∨ b = D') w).putObj (l := D) (fun _ => .inl rfl) _).putObj (l := D') (fun _ => .inr rfl) _) (by simp)⟩
  exact this

/-- Numbers that came in. -/
def ParK (W : World) (p : Option Addr) (xs : List Int) : Prop := ∀ j (hj : j < xs.length), ∃ b off, p = some ⟨b, off, none⟩ ∧ b < W.heap.size ∧ W.cell? ⟨b, off + j, none⟩ = some (Value.int .i64 (xs[j]))

set_option maxRecDepth 100000 in
set_option maxHeartbeats 2000000 in
theorem left_walk (p : Option Addr) (xs : List Int) (len cap : Nat) (n : Int) (W : World) (hlen : xs.length = len) (hP : ParK W p xs) (hn0 : -9223372036854775808 ≤ n) (hn1 : n ≤ 9223372036854775807) :
    Calls Try.prog 5 #[.slice p len cap, (Value.int .i64 (n))] W fun e W' => e = .returned (.bool true) ∧ Below W.heap.size W W' := by
  have hbn := below_alloc W (.cells #[(Value.int .i64 (n))] 3)
  have hnc := Cell.new W (Value.int .i64 (n)) 3
  have hbeg := S.begun_any (W.alloc (.cells #[(Value.int .i64 (n))] 3))
  refine (callsIn_wide (n := 0)).1 ?_
  refine callsIn_of_wp_marks Try.func5 rfl trivial ?_ rfl
  simp only [Try.ntmps5, List.size_toArray, List.length_cons, List.length_nil, Nat.reduceAdd, Nat.reduceSub, Array.replicate_succ, Array.replicate_zero, List.push_toArray, List.append_toArray, List.nil_append, List.cons_append]
  gi_wp2_with (first
    | (gi_at_call 6; refine callsIn_of_calls rfl ?_; (with_reducible refine hbeg.mono ?_); rintro e x0 ⟨rfl, b0⟩; have n0 := hnc.of (b0.block _ hnc.lt); have b0 := below_on hbn b0; have hnew := new_any 8 #[] (fun x => x) x0; clear hnc hbn hbeg)
    | (gi_at_call 7; refine callsIn_of_calls rfl ?_; (with_reducible refine hnew.mono ?_); rintro e x1 ⟨rfl, m1, b1⟩; have n1 := n0.of (b1.block _ n0.lt); clear hnew))
  obtain ⟨mb, hmb⟩ : ∃ mb, x0.heap.size = mb := ⟨_, rfl⟩
  have hWm : W.heap.size < mb := by have := n0.lt; omega
  have hc := cmp8 mb x0
  rw [hmb] at m1 ⊢
  have HS := Lib.hid (And.intro m1 (And.intro b0 b1))
  have HN := Lib.hid n0
  clear m1 b1 n0 n1
  gi_loopw [7] (fun i w => ∃ j : Nat, j ≤ 30 ∧ j ≤ len ∧ i = .int .i64 (j : Int) ∧ ∃ L : List (Int × Int), L.length ≤ j ∧ Mp mb x0 8 #[] (fun x => x) mb L w ∧ Below mb x0 w) (fun i _ => 30 - (intOf i).toNat)
  case atStart => exact ⟨0, Nat.zero_le _, Nat.zero_le _, rfl, [], Nat.le_refl _, HS.out.1, HS.out.1.bel⟩
  case round =>
    clear HS
    obtain ⟨j, hj30, hjl, rfl, L, hLj, hM, hbx⟩ := hrel
    by_cases hlt : j < len ∧ j < 30
    · obtain ⟨h1, h2⟩ := hlt
      have hd30 : decide ((j : Int) < 30) = true := decide_eq_true (by omega)
      obtain ⟨b, off, rfl, hbW, hcell⟩ := hP j (by omega)
      have hcw : wr.cell? ⟨b, off + j, none⟩ = some (Value.int .i64 (xs[j])) := by
        rw [hbx.cell (p := ⟨b, off + j, none⟩) (by show b < mb; omega), b0.cell (p := ⟨b, off + j, none⟩) hbW]; exact hcell
      generalize xs[j] = k0 at hcw
      have hput := Put_any hc mb L k0 (j : Int) wr (by omega) hM
      have hil : (insL (fun x => x) k0 (j : Int) L).length ≤ j + 1 := by rw [insL_len hM.srt]; split <;> omega
      gi_wp2_with (gi_at_call 9; refine callsIn_of_calls rfl ?_; (with_reducible refine hput.mono ?_); rintro e y1 ⟨rfl, m2, c2⟩; clear hput)
      exact ⟨⟨j + 1, by omega, by omega, by simp, _, hil, m2, m2.bel⟩, by simp [intOf]; omega⟩
    · have hex : ¬ j < len ∨ (j < len ∧ ¬ j < 30) := by omega
      clear hlt hP
      have hl30 : L.length ≤ 30 := by omega
      have hn2 : Cell wr W.heap.size (Value.int .i64 (n)) := HN.out.of (hbx.block _ (by omega))
      have hW2 : Below W.heap.size W wr := b0.trans (hbx.mono (by omega))
      have m3 := hM.later (below_alloc wr (.cells #[(Value.int .i64 (0))] 3))
      have k3 := Cell.new wr (Value.int .i64 (0)) 3
      have h3 := heap_alloc_new wr (.cells #[(Value.int .i64 (0))] 3)
      rcases hex with hex | ⟨hex, hex'⟩
      all_goals
        gi_wp2_with (gi_at_call 16; refine callsIn_of_calls rfl ?_; (with_reducible refine (All_any mb L _ m3).mono ?_); rintro e x3 ⟨u3, rfl, e3, f3, q3, z3, b3⟩; have k4 := k3.of (b3.block _ k3.lt); have h4 := (b3.block _ k3.lt).trans h3; have b4 := below_on (below_alloc wr (.cells #[(Value.int .i64 (0))] 3)) b3; clear k3 h3 b3)
        obtain ⟨kb, hkb⟩ : ∃ kb, wr.heap.size = kb := ⟨_, rfl⟩
        rw [hkb] at k4 h4 ⊢
        simp only [World.size_alloc, hkb] at e3 ⊢
        have hkl := k4.lt
        have hun : ¬ u3.has kb := f3.apart h4 (by simp)
        have hmk : mb < kb := by have := hM.lt; omega
        obtain ⟨D1, hD1⟩ : ∃ D1, x3.heap.size = D1 := ⟨_, rfl⟩
        refine wpIn_rangeFunc_skip (sv := .func (.func 35) #[] #[(Value.pointer (some ⟨kb + 1, 0, none⟩))]) rfl (all_gives (kb + 1) u3) (fun _ => rfl)
          (fun k T W => (∀ b, T b ↔ b = kb) ∧ Cell W kb (Value.int .i64 ((k : Int))) ∧ (k = 0 ∨ (k : Int) ≤ n)) (fun c _ T W => c = .exit 2 ∧ (∀ b, T b ↔ b = kb) ∧ Cell W kb (Value.int .i64 (max 0 (min n (L.length : Int))))) ?_ ?_ (fun b => b = kb) ?_ ?_ ?_ ⟨e3, f3⟩ ⟨fun _ => Iff.rfl, k4, .inl rfl⟩ ?_ ?_ ?_
        · rintro k T A B ⟨hT, a1, a2⟩ hin hsz hb
          exact ⟨hT, a1.of (hb _ ((hT _).2 rfl)), a2⟩
        · rintro c k T A B ⟨hc1, hT, a1⟩ hin hsz hb
          exact ⟨hc1, hT, a1.of (hb _ ((hT _).2 rfl))⟩
        · rintro b rfl; exact hkl
        · rintro b (rfl | h)
          · exact e3.lt
          · exact f3.lt b h
        · rintro b rfl (h | h)
          · omega
          · exact hun h
        · rintro l k hk T W1 hin hchg ⟨hT, ⟨d1, d1f⟩, hkn⟩
          have hk' : k < L.length := by have h := hk; rw [q3] at h; exact h
          have hnw : W1.cell? ⟨W.heap.size, 0, none⟩ = some (Value.int .i64 (n)) := (World.cell?_of_block (w := x3) (hchg.block W.heap.size (by have := b4.size; have := hn2.lt; omega) (fun h => by rcases h with h | h; (· omega); exact h))).trans ((World.cell?_of_block (w := wr) (b4.block _ hn2.lt)).trans hn2.1)
          by_cases hge : n ≤ (k : Int)
          · dsimp only [enc2]
            gi_wp2_with fail
            have hmax : max 0 (min n (L.length : Int)) = (k : Int) := by omega
            exact ⟨T, .refl _ _, hin, .refl _ _, rfl, hT, by rw [hmax]; exact ⟨d1, d1f⟩⟩
          · dsimp only [enc2]
            gi_wp2_with fail
            exact ⟨T, .refl _ _, fun b h => by simpa [World.setCell] using hin b h, (Chg.refl T W1).setCell (fun _ => (hT _).2 rfl) _, hT, by have := (Cell.set ⟨d1, d1f⟩ (Value.int .i64 ((k : Int) + 1))); simpa using this, .inr (by omega)⟩
        all_goals
          first
            | (rintro c kk S' W' hk0 hk1 hg hi hch ⟨rfl, hT, hdm⟩ d4 hK hnD')
            | (rintro S' W' hg hi hch ⟨hT, dm, hkn⟩ d4 hK hnD'
               have hdm : Cell W' kb (Value.int .i64 (max 0 (min n (L.length : Int)))) := by
                 rw [q3] at dm hkn
                 rw [show max 0 (min n (L.length : Int)) = (L.length : Int) by omega]
                 exact dm
               clear dm hkn)
          rw [hD1] at hK ⊢
          have hb' : Below wr.heap.size wr W' := b4.trans (hch.below b4.size (fun b hb h => by rcases h with h | h; (· omega); exact h))
          have m4 := hM.later hb'
          have m5 := m4.later (below_alloc W' (.cells #[(Value.int .i64 (0))] 3))
          have n5 := hn2.of (hb'.block _ hn2.lt)
          have W5 := below_on hW2 hb'
          have hKl := lt_of_heap hK
          have k5 := Cell.new W' (Value.int .i64 (0)) 3
          have h5 := heap_alloc_new W' (.cells #[(Value.int .i64 (0))] 3)
          clear hch hg hi hT d4 hnD' hb'
          gi_wp2_with (gi_at_call 16; refine callsIn_of_calls rfl ?_; (with_reducible refine (All_any mb L _ m5).mono ?_); rintro e x6 ⟨u6, rfl, e6, f6, q6, z6, b6⟩; have k6 := k5.of (b6.block _ k5.lt); have h6 := (b6.block _ k5.lt).trans h5; have m6 := m5.later b6; have b7 := below_on (below_alloc W' (.cells #[(Value.int .i64 (0))] 3)) b6; clear k5 h5 b6)
          obtain ⟨cb, hcb⟩ : ∃ cb, W'.heap.size = cb := ⟨_, rfl⟩
          rw [hcb] at k6 h6 ⊢
          simp only [World.size_alloc, hcb] at e6 ⊢
          have hcl := k6.lt
          have hun6 : ¬ u6.has cb := f6.apart h6 (by simp)
          have hkc : kb < cb := by have := hdm.lt; omega
          have hdk := hdm.of (b7.block kb hdm.lt)
          have hnn := n5.of (b7.block _ n5.lt)
          have hKc := (b7.block D1 hKl).trans hK
          obtain ⟨D2, hD2⟩ : ∃ D2, x6.heap.size = D2 := ⟨_, rfl⟩
          refine wpIn_rangeFunc_skip (sv := .func (.func 35) #[] #[(Value.pointer (some ⟨cb + 1, 0, none⟩))]) rfl (all_gives (cb + 1) u6) (fun _ => rfl)
            (fun k T W => (∀ b, T b ↔ b = cb) ∧ Cell W cb (Value.int .i64 ((k : Int)))) (fun _ _ _ _ => False) ?_ (fun _ _ _ _ _ h => h.elim) (fun b => b = cb) ?_ ?_ ?_ ⟨e6, f6⟩ ⟨fun _ => Iff.rfl, k6⟩ ?_ ?_ (fun _ _ _ _ _ _ _ _ _ h => h.elim)
          · rintro k T A B ⟨hT, a1⟩ hin hsz hb
            exact ⟨hT, a1.of (hb _ ((hT _).2 rfl))⟩
          · rintro b rfl; exact hcl
          · rintro b (rfl | h)
            · exact e6.lt
            · exact f6.lt b h
          · rintro b rfl (h | h)
            · omega
            · exact hun6 h
          · rintro l k hk T W1 hin hchg ⟨hT, ⟨d1, d1f⟩⟩
            have hk' : k < L.length := by have h := hk; rw [q6] at h; exact h
            dsimp only [enc2]
            gi_wp2_with fail
            exact ⟨T, .refl _ _, fun b h => by simpa [World.setCell] using hin b h, (Chg.refl T W1).setCell (fun _ => (hT _).2 rfl) _, hT, by have := (Cell.set ⟨d1, d1f⟩ (Value.int .i64 ((k : Int) + 1))); simpa using this⟩
          · rintro S2 W2 hg2 hi2 hch2 ⟨hT2, dc⟩ d5 hK2 hnD2
            rw [q6] at dc
            rw [hD2] at hK2 ⊢
            have hbc : Below W'.heap.size W' W2 := b7.trans (hch2.below b7.size (fun b hb h => by rcases h with h | h; (· omega); exact h))
            have m8 := m4.later hbc
            have W8 := below_on W5 hbc
            have hdk2 := (hdm.of (hbc.block kb hdm.lt)).1
            have hnn2 := (n5.of (hbc.block _ n5.lt)).1
            have hK1 := (hbc.block D1 hKl).trans hK
            have hD12 : D1 ≠ D2 := by omega
            have hln := fun q => callsIn_of_calls (F := Fence.wide) (n := 0) rfl (Len_any mb L (W2.drewN q) (m8.later (below_drewN W2 q)))
            have dc1 := dc.1
            have hgd : (max 0 (min n (L.length : Int)) == if 0 < (if (L.length : Int) < n then (L.length : Int) else n) then (if (L.length : Int) < n then (L.length : Int) else n) else 0) = true := by
              rw [beq_iff_eq]
              (repeat' split) <;> omega
            clear hch2 hg2 hi2 hT2 d5 hnD2 dc hdm n5 m4 m5 m6 m8 e6 f6 e3 f3 hdk hnn hKc b7 b4
            gi_wp2_with fail
            gi_quiet ((gi_at_call 14; exact CallsIn.quiet_of_same (hln _)))
            gi_wp2_with fail
            all_goals exact post_mark2 (fn := Try.f5) (t := 4) rfl hK2 hK1 hD12 (fun w' hch hsz => ⟨rfl, (below_on W8 (below_drewN W2 nq)).trans (hch.below (by have := W8.size; exact this) (fun b hb h => by rcases h with h | h <;> omega))⟩)
end Go.Proofs.Ytieohdlmighmkaa.I
