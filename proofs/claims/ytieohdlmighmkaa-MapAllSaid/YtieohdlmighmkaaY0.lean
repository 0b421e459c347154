import Derived.Test.YtieohdlmighmkaaN
import Derived.Test.YtieohdlmighmkaaMI
import Derived.Test.YtieohdlmighmkaaO
import Derived.Sort.QuietTacIn
import Derived.Sort.BigQuietIn
import Derived.Maps.OwnIn
import Derived.Maps.AppendAt
import Derived.RangeFuncBox
namespace Go.Proofs.Ytieohdlmighmkaa.I
open Go Go.RowKit Go.Shelf Go.Proofs Go.Proofs.Ytieohdlmighmkaa
attribute [local go_sem] Oper.semAt_some
attribute [local go_sem] eql26n eql26f wide_fn wide_depth

/-- Pairs in memory, from a block's beginning. -/
def Pairs (W : World) (p : Option Addr) (L : List (Int × Int)) : Prop := ∀ j (hj : j < L.length), ∃ g, p = some ⟨g, 0, none⟩ ∧ g < W.heap.size ∧ W.cell? ⟨g, j * 2, none⟩ = some (Value.int .i64 (L[j].1)) ∧ W.cell? ⟨g, j * 2 + 1, none⟩ = some (Value.int .i64 (L[j].2))
theorem Pairs.later {W W' : World} {p : Option Addr} {L : List (Int × Int)} (h : Pairs W p L) (hb : Below W.heap.size W W') : Pairs W' p L := fun j hj => by
  obtain ⟨g, h1, h2, h3, h4⟩ := h j hj
  exact ⟨g, h1, Nat.lt_of_lt_of_le h2 hb.size, (World.cell?_of_block (w := W) (hb.block g h2)).trans h3, (World.cell?_of_block (w := W) (hb.block g h2)).trans h4⟩
def cntL (a : Int) (L : List (Int × Int)) : Nat := (L.filter (fun p => decide (p.1 < a))).length
theorem below_cnt {a : Int} : ∀ {L : List (Int × Int)}, Srt (fun x => x) L → below (fun x => x) a L = cntL a L
  | [], _ => rfl
  | (k, v) :: r, h => by
    unfold Srt at h
    rw [List.pairwise_cons] at h
    rw [below]
    by_cases hk : k < a
    · rw [if_pos hk, below_cnt (L := r) h.2]
      simp [cntL, hk]
    · rw [if_neg hk]
      have : r.filter (fun p => decide (p.1 < a)) = [] := by
        rw [List.filter_eq_nil_iff]
        intro p hp
        have h1 : k < p.1 := h.1 p hp
        simp; omega
      simp [cntL, hk, this]
theorem below_at {L : List (Int × Int)} (h : Srt (fun x => x) L) {i : Nat} (hi : i < L.length) : below (fun x => x) L[i].1 L = i := by
  have e : L = L.take i ++ L[i] :: L.drop (i + 1) := by rw [← List.drop_eq_getElem_cons hi, List.take_append_drop]
  have h2 := h
  rw [e] at h2
  obtain ⟨_, _, h3, _⟩ := Srt.split (a := L[i].1) (w := L[i].2) h2
  have h4 := below_gt (key := fun x => x) (k := L[i].1) (X := L[i] :: L.drop (i + 1)) (L := L.take i) (fun p hp => h3 p hp)
  rw [← e] at h4
  rw [h4, below, if_neg (by simp), List.length_take]
  omega
theorem cnt_succ {a : Int} {L : List (Int × Int)} {i : Nat} (hi : i < L.length) : cntL a (L.take (i + 1)) = cntL a (L.take i) + (if L[i].1 < a then 1 else 0) := by
  unfold cntL
  rw [List.take_succ_eq_append_getElem hi, List.filter_append, List.length_append]
  congr 1
  by_cases h : L[i].1 < a <;> simp [h]

theorem neq31 (a b : Int) (w : World) : (binOp .neq 31 (.agg #[.int .i64 a, .int .i64 b]) (.agg #[.int .i64 a, .int .i64 b])).run Try.prog w = .ok (.bool false) w := by
  have hp : Try.prog.stoodInHeld 31 = false := by kernel_rfl
  have hf : Try.prog.underlying 31 = some (.struct (Try.prog.fieldsOf 31)) := by kernel_rfl
  have u3 := Try.underlying3
  rw [run_neq_struct, run_equalIn_agg w 9999 31 _ _ hf hp]
  simp [go_sem, Try.underlying31, Op.eqFields, u3]
theorem results_cell1 {fn : Func} {p : Tmp} {ty : TypeId} (h : fn.results = #[.cell p ty]) (tmps : Array Value) (P : Program) (w : World) :
    (results fn tmps).run P w = ((asAddr (tmps.getD p undef)).run P w).andThen fun a w₁ => (loadVar ty a).run P w₁ := by
  simp only [results, h]
  simp [Sem.run_bind]
theorem post_markc {F : Fence} {n : Nat} {P : Program} {fn : Func} {R : Ending → World → Prop} {tmps : Array Value} {w : World} {D : Nat} {v : Value} (hK : w.heap[D]? = some (.deferred (some [])))
    (h : ∀ w', Chg (fun b => b = D) w w' → w'.heap.size = w.heap.size → (results fn tmps).run P w' = .ok v w' ∧ R (.returned v) w') :
    bodyPostM F n P fn R .ret { tmps := tmps, defers := [markAt D] } w := by
  have : LeavesInM F n P fn tmps R [markAt D] .returning w := by
    have h' := h (w.putObj D (.deferred none)) ((Chg.refl (fun b => b = D) w).putObj (l := D) (fun _ => rfl) _) (by simp)
    refine ⟨by simp, .inl ⟨_, _, rfl, run_takeDeferred hK, ?_⟩⟩
    exact ⟨_, h'.1, h'.2⟩
  exact this
def cells2 (L : List (Int × Int)) : List Value := L.flatMap (fun p => [(Value.int .i64 (p.1)), (Value.int .i64 (p.2))])
theorem cells2_len (L : List (Int × Int)) : (cells2 L).length = L.length * 2 := by
  induction L with
  | nil => rfl
  | cons p r ih => simp only [cells2, List.flatMap_cons, List.length_append, List.length_cons, List.length_nil] at ih ⊢; omega
theorem cells2_append (A B : List (Int × Int)) : cells2 (A ++ B) = cells2 A ++ cells2 B := by simp [cells2]
theorem cells2_at : ∀ {L : List (Int × Int)} {j : Nat} (hj : j < L.length), (cells2 L)[j * 2]? = some (Value.int .i64 (L[j].1)) ∧ (cells2 L)[j * 2 + 1]? = some (Value.int .i64 (L[j].2))
  | p :: r, 0, _ => ⟨rfl, rfl⟩
  | p :: r, j + 1, hj => by
    have h := cells2_at (L := r) (j := j) (by simpa using hj)
    have e : cells2 (p :: r) = (Value.int .i64 (p.1)) :: (Value.int .i64 (p.2)) :: cells2 r := rfl
    rw [e, show (j + 1) * 2 = j * 2 + 1 + 1 by omega]
    exact h
theorem own_pairs {w : World} {base n : Nat} {v : Value} {L : List (Int × Int)} (h : w.ownsRow base 31 2 v n (cells2 L)) (hn : L.length = n) : ∃ p c, v = .slice p n c ∧ Pairs w p L := by
  have hat := fun g cap (hv : v = .slice (some ⟨g, 0, none⟩) n cap) j hj => World.ownsRow.cellAt (hv ▸ h) j hj
  have hlt := h.lt
  rcases h.2 with ⟨h1, h2⟩ | ⟨g, cap, cur, rfl, _⟩
  · subst h2
    have : L = [] := List.length_eq_zero_iff.1 hn
    subst this
    exact ⟨none, 0, h1, fun j hj => by simp at hj⟩
  · refine ⟨_, cap, rfl, fun j hj => ⟨g, rfl, (hlt g rfl).2, ?_, ?_⟩⟩
    · rw [hat g cap rfl (j * 2) (by omega)]; exact (cells2_at hj).1
    · rw [hat g cap rfl (j * 2 + 1) (by omega)]; exact (cells2_at hj).2
theorem info31 : (Try.prog.info? 31).map (fun i => (i.zero, i.size, i.bytes)) = some (some (.agg #[.int .i64 0, .int .i64 0]), 2, 16) := by kernel_rfl
theorem cell_two_new (w : World) (x y : Value) (t : TypeId) : ∀ j u, [x, y][j]? = some u → (w.alloc (.cells #[x, y] t)).cell? ((⟨w.heap.size, 0, none⟩ : Addr).add j) = some u := by
  intro j u hj
  have hh := heap_alloc_new w (.cells #[x, y] t)
  rcases j with _ | _ | j
  · simp at hj; subst hj; exact nd_cell hh 0
  · simp at hj; subst hj; exact nd_cell hh 1
  · simp at hj

set_option maxRecDepth 100000 in
set_option maxHeartbeats 2000000 in
theorem same_any {D : Nat} {W0 : World} {mb : Nat} (L : List (Int × Int)) (p : Option Addr) (n cap : Nat) (ask : Int) (W : World) (hn : L.length = n) (h60 : n ≤ 60) (hM : Mp D W0 8 #[] (fun x => x) mb L W) (hP : Pairs W p L) :
    Calls Try.prog 12 #[(Value.pointer (some ⟨mb, 0, none⟩)), .slice p n cap, (Value.int .i64 (ask))] W fun e W' => e = .returned (.bool true) ∧ Below W.heap.size W W' := by
  have hc := cmp8 D W0
  refine (callsIn_wide (n := 0)).1 ?_
  refine callsIn_of_wp_marks Try.func12 rfl trivial ?_ rfl
  simp only [Try.ntmps12, List.size_toArray, List.length_cons, List.length_nil, Nat.reduceAdd, Nat.reduceSub, Array.replicate_succ, Array.replicate_zero, List.push_toArray, List.append_toArray, List.nil_append, List.cons_append]
  gi_wp2_with fail
  obtain ⟨W2, hW2⟩ : ∃ W2, (W.alloc (.cells #[.slice p n cap] 27)).alloc (.cells #[.bool false] 4) = W2 := ⟨_, rfl⟩
  have hb2 : Below W.heap.size W W2 := by rw [← hW2]; exact below_on (below_alloc W _) (below_alloc _ _)
  have hz2 : W2.heap.size = W.heap.size + 2 := by rw [← hW2]; simp
  have cl : Cell W2 W.heap.size (.slice p n cap) := by rw [← hW2]; exact (Cell.new W _ _).alloc _
  have cr : Cell W2 (W.heap.size + 1) (.bool false) := by rw [← hW2]; exact Cell.new2 W _ _ _
  rw [hW2]
  clear hW2
  obtain ⟨nb, hnb⟩ : ∃ nb, W.heap.size = nb := ⟨_, rfl⟩
  have HM := Lib.hid (hM.later hb2)
  have HP := Lib.hid (hP.later hb2)
  clear hM hP
  rw [hnb] at cl cr hz2 hb2 ⊢
  have clc : ∀ q, (W2.drewN q).cell? ⟨nb, 0, none⟩ = some (.slice p n cap) := fun q => cl.1
  have hln := fun q => callsIn_of_calls (F := Fence.wide) (n := 0) rfl (Len_any mb L (W2.drewN q) (HM.out.later (below_drewN W2 q)))
  rw [hn] at hln
  gi_quiet ((gi_at_call 14; exact CallsIn.quiet_of_same (hln _)))
  gi_wp2_with fail
  gi_loopw [7, 8] (fun bv iv w => ∃ i : Nat, i ≤ n ∧ iv = .int .i64 (i : Int) ∧ bv = .int .i64 (cntL ask (L.take i) : Int) ∧ Below W2.heap.size W2 w) (fun _ iv _ => n - (intOf iv).toNat)
  case atStart => exact ⟨0, Nat.zero_le _, rfl, by simp [cntL], below_drewN W2 nq⟩
  case round =>
    obtain ⟨i, hin, rfl, rfl, hbw⟩ := hrel
    have hM := HM.out.later hbw
    have hP := HP.out.later hbw
    have clw := (cl.of (hbw.block _ cl.lt)).1
    by_cases hi : i < n
    · have hil : i < L.length := by omega
      have hat := At_any mb L (i : Int) (by omega) (by omega) wr (by omega) hM
      have hlk : look L (i : Int) = some L[i] := by unfold look; rw [if_pos (by omega)]; simp [hil]
      rw [hlk] at hat
      have hrk := fun w (h : Mp D W0 8 #[] (fun x => x) mb L w) => Rank_any hc mb L L[i].1 w (by omega) h
      rw [below_at hM.srt hil] at hrk
      have hcs := cnt_succ (a := ask) hil
      have hPi := fun w (h : Below wr.heap.size wr w) => (hP.later h) i hil
      obtain ⟨⟨a, v⟩, hav⟩ : ∃ e, L[i] = e := ⟨_, rfl⟩
      rw [hav] at hat hrk hcs hPi
      dsimp only at hrk hcs hPi
      have hat : Calls Try.prog 15 #[(Value.pointer (some ⟨mb, 0, none⟩)), (Value.int .i64 ((i : Int)))] wr fun e w' => e = .returned (.tuple #[(Value.int .i64 (a)), (Value.int .i64 (v)), .bool true]) ∧ Below wr.heap.size wr w' := hat
      have hbc : cntL ask (L.take i) ≤ i := Nat.le_trans (List.length_filter_le _ _) (by rw [List.length_take]; omega)
      generalize cntL ask (L.take i) = bc at hcs hbc ⊢
      by_cases hlt : a < ask
      · rw [if_pos hlt] at hcs
        gi_wp2_with (first
          | (gi_at_call 15; refine callsIn_of_calls rfl ?_; (with_reducible refine hat.mono ?_); rintro e y1 ⟨rfl, b1⟩; have hM1 := hM.later b1; have cl1 := (cl.of (hbw.block _ cl.lt)).of (b1.block _ (cl.of (hbw.block _ cl.lt)).lt); have cl1c := cl1.1; obtain ⟨g, rfl, hg, hc0, hc1⟩ := hPi y1 b1)
          | (gi_at_call 32; refine callsIn_of_calls rfl ?_; (with_reducible refine (hrk _ hM1).mono ?_); rintro e y2 ⟨rfl, b2⟩; have cl2 := (cl1.of (b2.block _ cl1.lt)).1; have d0 := (World.cell?_of_block (w := y1) (b2.block g hg)).trans hc0; have b12 := below_on hbw (below_on b1 b2)))
        exact ⟨⟨i + 1, by omega, by simp, by rw [hcs]; simp, b12⟩, by simp [intOf]; omega⟩
      · rw [if_neg hlt] at hcs
        gi_wp2_with (first
          | (gi_at_call 15; refine callsIn_of_calls rfl ?_; (with_reducible refine hat.mono ?_); rintro e y1 ⟨rfl, b1⟩; have hM1 := hM.later b1; have cl1 := (cl.of (hbw.block _ cl.lt)).of (b1.block _ (cl.of (hbw.block _ cl.lt)).lt); have cl1c := cl1.1; obtain ⟨g, rfl, hg, hc0, hc1⟩ := hPi y1 b1)
          | (gi_at_call 32; refine callsIn_of_calls rfl ?_; (with_reducible refine (hrk _ hM1).mono ?_); rintro e y2 ⟨rfl, b2⟩; have cl2 := (cl1.of (b2.block _ cl1.lt)).1; have d0 := (World.cell?_of_block (w := y1) (b2.block g hg)).trans hc0; have b12 := below_on hbw (below_on b1 b2)))
        exact ⟨⟨i + 1, by omega, by simp, by rw [hcs]; simp, b12⟩, by simp [intOf]; omega⟩
    · have hin' : i = n := by omega
      subst hin'
      have htk : L.take i = L := List.take_of_length_le (by omega)
      rw [htk]
      have hM3 := hM.later (below_alloc wr (.cells #[.slice none 0 0] 27))
      have g3 := Cell.new wr (.slice none 0 0) 27
      have h3 := heap_alloc_new wr (.cells #[.slice none 0 0] 27)
      gi_wp2_with (gi_at_call 16; refine callsIn_of_calls rfl ?_; (with_reducible refine (All_any mb L _ hM3).mono ?_); rintro e x4 ⟨u4, rfl, e4, f4, q4, z4, b4⟩; have g4 := g3.of (b4.block _ g3.lt); have h4 := (b4.block _ g3.lt).trans h3; have b5 := below_on (below_alloc wr (.cells #[.slice none 0 0] 27)) b4; clear g3 h3 b4)
      generalize hact : ({ tmps := _, defers := _ } : Act) = act
      obtain ⟨gb, hgb⟩ : ∃ gb, wr.heap.size = gb := ⟨_, rfl⟩
      simp only [World.size_alloc, hgb] at hact e4 g4 h4
      have hgl := g4.lt
      have hung : ¬ u4.has gb := f4.apart h4 (by simp)
      have hnbg : nb + 2 ≤ gb := by have := hbw.size; omega
      have cl4 := ((cl.of (hbw.block _ cl.lt)).of (b5.block _ (cl.of (hbw.block _ cl.lt)).lt))
      have hcl4 : ∀ T W1, Chg (fun b => (b = gb) ∨ False) x4 W1 → (T : Nat → Prop) = T → W1.cell? ⟨nb, 0, none⟩ = some (.slice p i cap) := fun T W1 h _ => (World.cell?_of_block (w := x4) (h.block nb cl4.lt (fun x => by rcases x with x | x; (· omega); exact x))).trans cl4.1
      obtain ⟨i0, hi0, hz0, hz1, hz2'⟩ := info_parts info31
      refine wpIn_rangeFunc_sep (sv := .func (.func 35) #[] #[(Value.pointer (some ⟨gb + 1, 0, none⟩))]) (by rw [← hact]; rfl) (all_gives (gb + 1) u4) (fun _ => rfl)
        (fun k T W => k ≤ L.length ∧ ∃ v, (∀ b, T b ↔ b = gb ∨ v.ownBlock = some b) ∧ Cell W gb v ∧ W.ownsRow gb 31 2 v k (cells2 (L.take k)) ∧ v.ownBlock ≠ some gb) (fun _ _ _ _ => False) ?_ (fun _ _ _ _ _ h => h.elim) (fun b => b = gb) ?_ ?_ ?_ ⟨e4, f4⟩
        ⟨Nat.zero_le _, .slice none 0 0, fun b => by simp [Value.ownBlock], g4, World.ownsRow_nil _ _ _ _, by simp [Value.ownBlock]⟩
        (fun x => { tmps := (((act.tmps.setIfInBounds 78 (Value.int .i64 (x.1))).setIfInBounds 79 (Value.int .i64 (x.2))).setIfInBounds 13 (Value.int .i64 (x.1))).setIfInBounds 14 (Value.int .i64 (x.2)), defers := [] }) ?_ ?_ ?_ (fun _ _ _ _ _ _ _ _ _ h => h.elim)
      · rintro k T A B ⟨hk, v, hT, a1, a2, a3⟩ hin hsz hb
        refine ⟨hk, v, hT, a1.of (hb _ ((hT _).2 (.inl rfl))), ?_, a3⟩
        rcases a2.2 with h | ⟨g, cap', cur, hv, hg, hh, r⟩
        · exact ⟨a2.1, .inl h⟩
        · exact ⟨a2.1, .inr ⟨g, cap', cur, hv, hg, (hb g ((hT g).2 (.inr (by rw [hv]; rfl)))).trans hh, r⟩⟩
      · rintro b rfl; exact hgl
      · rintro b (rfl | h)
        · exact e4.lt
        · exact f4.lt b h
      · rintro b rfl (h | h)
        · omega
        · exact hung h
      · intro l x W K hK
        subst hact
        dsimp only [enc2]
        gi_wp2
        exact hK
      · rintro l k hk T W1 hin hchg ⟨hkL, v, hT, ⟨d1, d1f⟩, hrow, hne⟩
        have hk' : k < L.length := by have h := hk; rw [q4] at h; exact h
        have hlt : gb < W1.heap.size := hin gb ((hT _).2 (.inl rfl))
        have hcl1 : W1.cell? ⟨nb, 0, none⟩ = some (.slice p i cap) := hcl4 (fun _ => False) W1 hchg rfl
        have hmax : k + 1 ≤ maxLen := by unfold maxLen; omega
        have hxe : u4.toL[k] = L[k] := by simp only [q4]
        rw [hxe]
        have htk1 : cells2 (L.take (k + 1)) = cells2 (L.take k) ++ [(Value.int .i64 (L[k].1)), (Value.int .i64 (L[k].2))] := by rw [List.take_succ_eq_append_getElem hk', cells2_append]; rfl
        obtain ⟨⟨ka, va⟩, hka⟩ : ∃ e, L[k] = e := ⟨_, rfl⟩
        rw [hka] at htk1 ⊢
        dsimp only at htk1 ⊢
        have hnext : ∀ v' w', w'.ownsRow gb 31 2 v' (k + 1) (cells2 (L.take k) ++ [(Value.int .i64 (ka)), (Value.int .i64 (va))]) → (W1.alloc (.cells #[(Value.int .i64 (ka)), (Value.int .i64 (va))] 31)).grownBy w' v.ownBlock →
            (v'.ownBlock = v.ownBlock ∨ v'.ownBlock = some (W1.alloc (.cells #[(Value.int .i64 (ka)), (Value.int .i64 (va))] 31)).heap.size) →
            (∃ S2, Grows T S2 W1 ∧ InW S2 (w'.setCell ⟨gb, 0, none⟩ v') ∧ Chg T W1 (w'.setCell ⟨gb, 0, none⟩ v') ∧ (k + 1 ≤ L.length ∧ ∃ v, (∀ b, S2 b ↔ b = gb ∨ v.ownBlock = some b) ∧ Cell (w'.setCell ⟨gb, 0, none⟩ v') gb v ∧ (w'.setCell ⟨gb, 0, none⟩ v').ownsRow gb 31 2 v (k + 1) (cells2 (L.take (k + 1))) ∧ v.ownBlock ≠ some gb)) ∧
            w'.cell? ⟨gb, 0, none⟩ = some v ∧ w'.frozen? ⟨gb, 0, none⟩ = false ∧ w'.cell? ⟨nb, 0, none⟩ = some (.slice p i cap) := fun v' w' ho hg hat => by
          have hc1 : Chg T W1 w' := ((Chg.refl T W1).alloc _).grown hg (fun b x _ => (hT b).2 (.inr x))
          have hblk : w'.heap[gb]? = W1.heap[gb]? := (hg.block gb (by simp; omega) (fun x => hne x.symm)).trans (Below.heap_alloc _ _ _ hlt)
          have hcell : Cell w' gb v := Cell.of ⟨d1, d1f⟩ hblk
          have hne' : v'.ownBlock ≠ some gb := by
            rcases hat with x | x
            · rw [x]; exact hne
            · rw [x]; simp; omega
          have hsz1 : (w'.setCell ⟨gb, 0, none⟩ v').heap.size = w'.heap.size := by simp [World.setCell]
          have hnbw : w'.cell? ⟨nb, 0, none⟩ = some (.slice p i cap) := by
            rw [World.cell?_of_block (w := W1.alloc (.cells #[(Value.int .i64 (ka)), (Value.int .i64 (va))] 31)) (hg.block nb (by simp; omega) (fun x => by have h := (hrow.lt nb x.symm).1; omega)), World.cell?_of_block (w := W1) (Below.heap_alloc W1 _ nb (by omega))]
            exact hcl1
          refine ⟨⟨fun b => b = gb ∨ v'.ownBlock = some b, ?_, ?_, hc1.setCell (fun _ => (hT _).2 (.inl rfl)) _, by omega, v', fun _ => Iff.rfl, hcell.set _, ?_, hne'⟩, hcell.1, hcell.2, hnbw⟩
          · rintro b (x | x)
            · exact .inl ((hT b).2 (.inl x))
            · rcases hat with y | y
              · rw [y] at x; exact .inl ((hT b).2 (.inr x))
              · rw [y] at x; simp at x; exact .inr (by omega)
          · rintro b (x | x)
            · rw [hsz1, x]; have := hc1.size; omega
            · rw [hsz1]; exact (ho.lt b x).2
          · rw [htk1]
            exact ho.kept (row := some gb) ⟨rfl, rfl, rfl, by rw [hsz1]; exact Nat.le_refl _, fun b _ hb => Below.heap_setCell _ _ _ _ (fun e => hb (by rw [e]))⟩ (.inr hne')
        subst hact
        dsimp only
        clear hin hchg htk1 hT
        gi_wp2_with (gi_at_builtin; refine wpListIn_append_own_at _ rfl _ _ 27 rfl gb 31 i0 (.agg #[.int .i64 0, .int .i64 0]) 2 16 Try.underlying27 hi0 hz0 hz1 hz2' rfl (by decide) v k _ rfl (hrow.alloc _) ⟨W1.heap.size, 0, none⟩ 1 1 [(Value.int .i64 (ka)), (Value.int .i64 (va))] rfl rfl (cell_two_new _ _ _ _) (by simp [Value.oneCell']) hmax (by omega) (by simp; omega) ?_; intro v' w1 hown' hgrow _ hat; obtain ⟨hend, hcc, hff, hnn⟩ := hnext v' w1 hown' hgrow hat; obtain ⟨g', cap', rfl⟩ := ownsRow_succ hown')
        rw [hn] at hend
        exact hend
      · rintro S' W' hg hi' hch ⟨_, v, hT, d1, hrow, hne⟩ d4 hK hnD'
        subst hact
        have hb6 : Below wr.heap.size wr W' := b5.trans (hch.below b5.size (fun b hb h => by rcases h with h | h; (· omega); exact h))
        rw [q4, List.take_length] at hrow
        obtain ⟨D9, hD9⟩ : ∃ D9, x4.heap.size = D9 := ⟨_, rfl⟩
        rw [hD9] at hK ⊢
        have hM6 := hM.later hb6
        have hP6 := hP.later hb6
        have cl6 := (cl.of (hbw.block _ cl.lt)).of (hb6.block _ (cl.of (hbw.block _ cl.lt)).lt)
        have cr6 := (cr.of (hbw.block _ cr.lt)).of (hb6.block _ (cr.of (hbw.block _ cr.lt)).lt)
        have hW6 : Below nb W W' := (hb2.mono (by omega)).trans ((hbw.trans (hb6.mono (by have := hbw.size; omega))).mono (by omega))
        have hKl := lt_of_heap hK
        clear hch hg hi' hT d4 hnD' e4 f4 z4 g4 h4 b5 hung cl4 hcl4
        rw [hn] at hrow
        obtain ⟨pg, cg, rfl, hPg⟩ := own_pairs hrow hn
        gi_wp2_with fail
        gi_loopw [15] (fun tv w => ∃ t : Nat, t ≤ i ∧ tv = .int .i64 (t : Int) ∧ ∃ q, w = W'.drewN q) (fun tv _ => i - (intOf tv).toNat)
        case atStart => exact ⟨0, Nat.zero_le _, rfl, 0, rfl⟩
        case round =>
          obtain ⟨t, hti, rfl, q, rfl⟩ := hrel
          have hgq : ∀ q, (W'.drewN q).cell? ⟨gb, 0, none⟩ = some (.slice pg i cg) := fun q => d1.1
          have hlq : ∀ q, (W'.drewN q).cell? ⟨nb, 0, none⟩ = some (.slice p i cap) := fun q => cl6.1
          by_cases htl : t < i
          · obtain ⟨g1, rfl, _, a0, a1⟩ := hPg t (by omega)
            obtain ⟨g2, rfl, _, c0, c1⟩ := hP6 t (by omega)
            obtain ⟨⟨ka, va⟩, hka⟩ : ∃ e, L[t]'(by omega) = e := ⟨_, rfl⟩
            rw [hka] at a0 a1 c0 c1
            have a0q : ∀ q, (W'.drewN q).cell? ⟨g1, t * 2, none⟩ = some (Value.int .i64 (ka)) := fun q => a0
            have a1q : ∀ q, (W'.drewN q).cell? ⟨g1, t * 2 + 1, none⟩ = some (Value.int .i64 (va)) := fun q => a1
            have c0q : ∀ q, (W'.drewN q).cell? ⟨g2, t * 2, none⟩ = some (Value.int .i64 (ka)) := fun q => c0
            have c1q : ∀ q, (W'.drewN q).cell? ⟨g2, t * 2 + 1, none⟩ = some (Value.int .i64 (va)) := fun q => c1
            have hne31 := neq31 ka va
            gi_wp2_with fail
            gi_quiet (fail)
            gi_wp2_with fail
            exact ⟨⟨t + 1, by omega, by simp, _, rfl⟩, by simp [intOf]; omega⟩
          · obtain rfl : t = i := by omega
            have hM7 := hM6.later (below_drewN W' q)
            have cl7 : Cell (W'.drewN q) nb (.slice p t cap) := cl6
            have cr7 : Cell (W'.drewN q) (nb + 1) (.bool false) := cr6
            have d17 : Cell (W'.drewN q) gb (.slice pg t cg) := d1
            have hK7 : (W'.drewN q).heap[D9]? = some (.deferred (some [])) := hK
            have hW7 : Below nb W (W'.drewN q) := ⟨hW6.os, hW6.tape, hW6.output, hW6.size, hW6.block⟩
            have h9 : nb + 2 ≤ D9 := by omega
            generalize W'.drewN q = W9 at hM7 cl7 cr7 d17 hK7 hW7 ⊢
            have cl7c := cl7.1
            have d17c := d17.1
            have at1 : ∀ w, Mp D W0 8 #[] (fun x => x) mb L w → Calls Try.prog 15 #[(Value.pointer (some ⟨mb, 0, none⟩)), (Value.int .i64 ((-1)))] w fun e w' => e = .returned (.tuple #[(Value.int .i64 (0)), (Value.int .i64 (0)), .bool false]) ∧ Below w.heap.size w w' := fun w h => by
              have := At_any mb L (-1) (by omega) (by omega) w (by omega) h
              have e : look L (-1) = none := by unfold look; rw [if_neg (by omega)]
              rw [e] at this
              exact this
            have at2 : ∀ w, Mp D W0 8 #[] (fun x => x) mb L w → Calls Try.prog 15 #[(Value.pointer (some ⟨mb, 0, none⟩)), (Value.int .i64 ((t : Int)))] w fun e w' => e = .returned (.tuple #[(Value.int .i64 (0)), (Value.int .i64 (0)), .bool false]) ∧ Below w.heap.size w w' := fun w h => by
              have := At_any mb L (t : Int) (by omega) (by omega) w (by omega) h
              have e : look L (t : Int) = none := by unfold look; rw [if_pos (by omega)]; exact List.getElem?_eq_none (by omega)
              rw [e] at this
              exact this
            have rk := fun w (h : Mp D W0 8 #[] (fun x => x) mb L w) => Rank_any hc mb L ask w (by omega) h
            rw [below_cnt hM6.srt] at rk
            clear hM6 cl6 cr6 d1 hK hW6 hPg hP6 hP hM hrow
            gi_wp2_with (first
              | (gi_at_call 15; refine callsIn_of_calls rfl ?_; (with_reducible refine (at1 _ hM7).mono ?_); rintro e y1 ⟨rfl, b1⟩; have hM8 := hM7.later b1; have cl8 := cl7.of (b1.block _ cl7.lt); have cr8 := cr7.of (b1.block _ cr7.lt); have d18 := d17.of (b1.block _ d17.lt); have hK8 := (b1.block _ (lt_of_heap hK7)).trans hK7; have hW8 := hW7.trans (b1.mono (by have := cl7.lt; omega)); have cl8c := cl8.1; clear hM7 cl7 cr7 d17 hK7 hW7 b1)
              | (gi_at_call 15; refine callsIn_of_calls rfl ?_; (with_reducible refine (at2 _ hM8).mono ?_); rintro e y2 ⟨rfl, b2⟩; have hM9 := hM8.later b2; have cl9 := cl8.of (b2.block _ cl8.lt); have cr9 := cr8.of (b2.block _ cr8.lt); have d19 := d18.of (b2.block _ d18.lt); have hK9 := (b2.block _ (lt_of_heap hK8)).trans hK8; have hW9 := hW8.trans (b2.mono (by have := cl8.lt; omega)); have cl9c := cl9.1; have d19c := d19.1; clear hM8 cl8 cr8 d18 hK8 hW8 b2)
              | (gi_at_call 32; refine callsIn_of_calls rfl ?_; (with_reducible refine (rk _ hM9).mono ?_); rintro e y3 ⟨rfl, b3⟩; have crX := cr9.of (b3.block _ cr9.lt); have hKX := (b3.block _ (lt_of_heap hK9)).trans hK9; have hWX := hW9.trans (b3.mono (by have := cl9.lt; omega)); obtain ⟨crXc, crXf⟩ := crX; clear hM9 cl9 cr9 d19 hK9 hW9 b3))
            have hlt3 : nb + 1 < y3.heap.size := World.block_lt_of_cell? y3 ⟨nb + 1, 0, none⟩ crXc
            refine post_markc (fn := Try.f12) (D := D9) (v := .bool true) ((Below.heap_setCell _ _ _ _ (by show D9 ≠ nb + 1; omega)).trans hKX) (fun w' hch hsz => ?_)
            have hcw : w'.cell? ⟨nb + 1, 0, none⟩ = some (.bool true) :=
              (World.cell?_of_block (w := y3.setCell ⟨nb + 1, 0, none⟩ (.bool true)) (hch.block (nb + 1) (by simp [World.setCell]; omega) (by omega))).trans (World.cell?_setCell_same _ _ _ crXc)
            refine ⟨?_, rfl, ?_⟩
            · rw [results_cell1 rfl]
              simp [go_sem, loadVar, hcw]
            · rw [hnb]
              exact (hWX.setCell (by show nb ≤ nb + 1; omega) _).trans (hch.below (by have := hWX.size; simp [World.setCell]; omega) (fun b hb e => by omega))
end Go.Proofs.Ytieohdlmighmkaa.I
