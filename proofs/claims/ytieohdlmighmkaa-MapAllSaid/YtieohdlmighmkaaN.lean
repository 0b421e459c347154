import Derived.Test.YtieohdlmighmkaaMS
import Derived.Test.YtieohdlmighmkaaEq3
import Derived.RangeFuncLeaves
namespace Go.Proofs.Ytieohdlmighmkaa.S
open Go Go.RowKit Go.Shelf Go.Proofs Go.Proofs.Ytieohdlmighmkaa
attribute [local go_sem] Oper.semAt_some
attribute [local go_sem] eql26n eql26f wide_fn wide_depth

theorem eql54f {w : World} (f : Fn) (a b : Array Value) : (binOp .eql 54 (.func f a b) .nilFunc).run Try.prog w = .ok (.bool false) w := run_eql_fn _ _ _ _ _ _ _ Try.underlying54
attribute [local go_sem] eql54f
def sa : ByteArray := ⟨#[97]⟩
def sb : ByteArray := ⟨#[98]⟩
def sc : ByteArray := ⟨#[99]⟩
abbrev MpB (W0 : World) (L : List (Int × ByteArray)) (w : World) : Prop := Mp W0.heap.size W0 8 #[] (fun x => x) W0.heap.size L w

theorem below_chg {W x y : World} (h : Below W.heap.size W x) (c : Chg (fun b => b = W.heap.size) x y) : Below W.heap.size W y :=
  h.trans (c.below h.size (fun b hb e => by omega))
set_option maxRecDepth 100000 in
set_option maxHeartbeats 2000000 in
theorem begun_any (W : World) : Calls Try.prog 6 #[] W fun e W' => e = .returned (.bool true) ∧ Below W.heap.size W W' := by
  have hc := cmp8 W.heap.size W
  have hnew := new_any 8 #[] (fun x => x) W
  have p1 : ∀ w, MpB W [] w → Calls Try.prog 18 #[(Value.pointer (some ⟨W.heap.size, 0, none⟩)), (Value.int .i64 (5)), .string ⟨#[97]⟩] w fun e w' => e = .returned (.bool true) ∧ MpB W [(5, sa)] w' ∧ Chg (fun b => b = W.heap.size) w w' := fun w h => Put_any hc W.heap.size [] 5 sa w (by simp) h
  have p2 : ∀ w, MpB W [(5, sa)] w → Calls Try.prog 18 #[(Value.pointer (some ⟨W.heap.size, 0, none⟩)), (Value.int .i64 (2)), .string ⟨#[98]⟩] w fun e w' => e = .returned (.bool true) ∧ MpB W [(2, sb), (5, sa)] w' ∧ Chg (fun b => b = W.heap.size) w w' := fun w h => Put_any hc W.heap.size _ 2 sb w (by simp) h
  have p3 : ∀ w, MpB W [(2, sb), (5, sa)] w → Calls Try.prog 18 #[(Value.pointer (some ⟨W.heap.size, 0, none⟩)), (Value.int .i64 (5)), .string ⟨#[99]⟩] w fun e w' => e = .returned (.bool false) ∧ MpB W [(2, sb), (5, sc)] w' ∧ Chg (fun b => b = W.heap.size) w w' := fun w h => Put_any hc W.heap.size _ 5 sc w (by simp) h
  have g1 : ∀ w, MpB W [(2, sb), (5, sc)] w → Calls Try.prog 19 #[(Value.pointer (some ⟨W.heap.size, 0, none⟩)), (Value.int .i64 (5))] w fun e w' => e = .returned (.tuple #[.string ⟨#[99]⟩, .bool true]) ∧ Below w.heap.size w w' := fun w h => Get_any hc W.heap.size _ 5 w (by simp) h
  have a1 : ∀ w, MpB W [(2, sb), (5, sc)] w → Calls Try.prog 20 #[(Value.pointer (some ⟨W.heap.size, 0, none⟩)), (Value.int .i64 (0))] w fun e w' => e = .returned (.tuple #[(Value.int .i64 (2)), .string ⟨#[98]⟩, .bool true]) ∧ Below w.heap.size w w' := fun w h => At_any W.heap.size _ 0 (by omega) (by omega) w (by simp) h
  have l1 : ∀ w, MpB W [(2, sb), (5, sc)] w → Calls Try.prog 22 #[(Value.pointer (some ⟨W.heap.size, 0, none⟩))] w fun e w' => e = .returned (Value.int .i64 (2)) ∧ w' = w := fun w h => Len_any W.heap.size _ w h
  have r1 : ∀ w, MpB W [(2, sb), (5, sc)] w → Calls Try.prog 23 #[(Value.pointer (some ⟨W.heap.size, 0, none⟩)), (Value.int .i64 (5))] w fun e w' => e = .returned (Value.int .i64 (1)) ∧ Below w.heap.size w w' := fun w h => Rank_any hc W.heap.size _ 5 w (by simp) h
  have d1 : ∀ w, MpB W [(2, sb), (5, sc)] w → Calls Try.prog 24 #[(Value.pointer (some ⟨W.heap.size, 0, none⟩)), (Value.int .i64 (2))] w fun e w' => e = .returned (.bool true) ∧ MpB W [(5, sc)] w' ∧ Chg (fun b => b = W.heap.size) w w' := fun w h => Del_any hc W.heap.size _ 2 w (by simp) h
  have d2 : ∀ w, MpB W [(5, sc)] w → Calls Try.prog 24 #[(Value.pointer (some ⟨W.heap.size, 0, none⟩)), (Value.int .i64 (2))] w fun e w' => e = .returned (.bool false) ∧ MpB W [(5, sc)] w' ∧ Chg (fun b => b = W.heap.size) w w' := fun w h => Del_any hc W.heap.size _ 2 w (by simp) h
  have l2 : ∀ w, MpB W [(5, sc)] w → Calls Try.prog 22 #[(Value.pointer (some ⟨W.heap.size, 0, none⟩))] w fun e w' => e = .returned (Value.int .i64 (1)) ∧ w' = w := fun w h => Len_any W.heap.size _ w h
  have al : ∀ w, MpB W [(2, sb), (5, sc)] w → _ := fun w h => All_any W.heap.size _ w h
  refine (callsIn_wide (n := 0)).1 ?_
  refine callsIn_of_wp_marks Try.func6 rfl trivial ?_ rfl
  simp only [Try.ntmps6, List.size_toArray, List.length_nil, Nat.reduceSub, Array.replicate_succ, Array.replicate_zero, List.push_toArray, List.append_toArray, List.nil_append, List.cons_append]
  gi_wp2_with (first
    | (gi_at_call 17; refine callsIn_of_calls rfl ?_; (with_reducible refine hnew.mono ?_); rintro e x1 ⟨rfl, m1, b1⟩; clear hnew)
    | (gi_at_call 18; refine callsIn_of_calls rfl ?_; (with_reducible refine (p1 _ m1).mono ?_); rintro e x2 ⟨rfl, m2, c2⟩; have b2 := below_chg b1 c2; clear m1 b1 c2)
    | (gi_at_call 18; refine callsIn_of_calls rfl ?_; (with_reducible refine (p2 _ m2).mono ?_); rintro e x3 ⟨rfl, m3, c3⟩; have b3 := below_chg b2 c3; clear m2 b2 c3)
    | (gi_at_call 18; refine callsIn_of_calls rfl ?_; (with_reducible refine (p3 _ m3).mono ?_); rintro e x4 ⟨rfl, m4, c4⟩; have b4 := below_chg b3 c4; clear m3 b3 c4)
    | (gi_at_call 19; refine callsIn_of_calls rfl ?_; (with_reducible refine (g1 _ m4).mono ?_); rintro e x5 ⟨rfl, b5⟩; have m5 := m4.later b5; have b5 := below_on b4 b5; clear m4 b4)
    | (gi_at_call 20; refine callsIn_of_calls rfl ?_; (with_reducible refine (a1 _ m5).mono ?_); rintro e x6 ⟨rfl, b6⟩; have m6 := m5.later b6; have m7 := m6.later (below_alloc x6 (.cells #[(Value.int .i64 (0))] 3)); have n7 := Cell.new x6 (Value.int .i64 (0)) 3; have k7 := heap_alloc_new x6 (.cells #[(Value.int .i64 (0))] 3); have b6 := below_on b5 b6; clear m5 b5)
    | (gi_at_call 21; refine callsIn_of_calls rfl ?_; (with_reducible refine (al _ m7).mono ?_); rintro e x8 ⟨u8, rfl, _, _, _, _, b8⟩; have m8 := m7.later b8; have n8 := n7.of (b8.block _ n7.lt); have k8 := (b8.block _ n7.lt).trans k7; have b68 := below_on (below_alloc x6 (.cells #[(Value.int .i64 (0))] 3)) b8; clear m7 n7 b8)
    | (gi_at_call 21; refine callsIn_of_calls rfl ?_; (with_reducible refine (al _ m8).mono ?_); rintro e x9 ⟨u9, rfl, e9, f9, q9, z9, b9⟩; have m9 := m8.later b9; have n9 := n8.of (b9.block _ n8.lt); have k9 := (b9.block _ n8.lt).trans k8; have b69 := below_on b68 b9; clear m8))
  obtain ⟨nb, hnb⟩ : ∃ nb, x6.heap.size = nb := ⟨_, rfl⟩
  rw [hnb] at n9 k9 ⊢
  have hmb : W.heap.size < nb := by have := m6.lt; omega
  have hcb : nb < x8.heap.size := by have := n8.lt; omega
  have hzb := b69.size
  have hun : ∀ b, u9.has b → b < x8.heap.size := z9
  have hunb : ¬ u9.has nb := f9.apart k9 (by simp)
  refine wpIn_rangeFunc_skip (sv := .func (.func 44) #[] #[(Value.pointer (some ⟨x8.heap.size, 0, none⟩))]) rfl (all_gives x8.heap.size u9) (fun _ => rfl)
    (fun k T W => (∀ b, T b ↔ b = nb) ∧ Cell W nb (Value.int .i64 ((k : Int)))) (fun _ _ _ _ => False) ?l1 (fun _ _ _ _ _ h => h.elim) (fun b => b = nb) ?hS ?hM ?hSM ⟨e9, f9⟩ ⟨fun _ => Iff.rfl, n9⟩ ?body ?done (fun _ _ _ _ _ _ _ _ _ h => h.elim)
  case l1 =>
    rintro k T A B ⟨hT, a1⟩ hin hsz hb
    exact ⟨hT, a1.of (hb _ ((hT _).2 rfl))⟩
  case hS => rintro b rfl; exact n9.lt
  case hM =>
    rintro b (rfl | h)
    · exact e9.lt
    · exact f9.lt b h
  case hSM =>
    rintro b rfl (h | h)
    · omega
    · exact hunb h
  case body =>
    rintro l k hk T W1 hin hchg ⟨hT, d1, e1⟩
    have hk2 : k < 2 := by have h := hk; rw [q9] at h; exact h
    dsimp only [enc2]
    gi_wp2_with fail
    exact ⟨T, .refl _ _, fun b h => by simpa [World.setCell] using hin b h, (Chg.refl T W1).setCell (fun _ => (hT _).2 rfl) _, hT, by have := (Cell.set ⟨d1, e1⟩ (Value.int .i64 ((k : Int) + 1))); simpa using this⟩
  case done =>
    rintro S' W' hg hi hch ⟨hT, d1c, d1f⟩ d4 hK hnD'
    have hb' : Below x6.heap.size x6 W' := b69.trans (hch.below hzb (fun b hb h => by rcases h with h | h; (· omega); exact h))
    have m10 := m6.chg hb' (Nat.le_refl _)
    have hbW := below_on b6 hb'
    obtain ⟨D9, hD9⟩ : ∃ D9, x9.heap.size = D9 := ⟨_, rfl⟩
    rw [hD9] at hK ⊢
    have hDm : W.heap.size < D9 := by omega
    have hKl := lt_of_heap hK
    clear hch hg hi hT d4 hnD' m6 hb' m9 n9 k9 e9 f9 z9
    gi_wp2_with (first
      | (gi_at_call 22; refine callsIn_of_calls rfl ?_; (with_reducible refine (l1 _ m10).mono ?_); rintro e y1 ⟨rfl, hy1⟩; subst y1)
      | (gi_at_call 23; refine callsIn_of_calls rfl ?_; (with_reducible refine (r1 _ m10).mono ?_); rintro e y2 ⟨rfl, bb2⟩; have m11 := m10.later bb2; have K2 := (bb2.block _ hKl).trans hK; have bW2 := below_on hbW bb2; have n2 := (World.cell?_of_block (w := W') (bb2.block nb (World.block_lt_of_cell? W' ⟨nb, 0, none⟩ d1c))).trans d1c; clear m10 hbW)
      | (gi_at_call 24; refine callsIn_of_calls rfl ?_; (with_reducible refine (d1 _ m11).mono ?_); rintro e y3 ⟨rfl, m12, ch3⟩; have K3 := (ch3.block _ (lt_of_heap K2) (by omega)).trans K2; have bW3 := below_chg bW2 ch3; clear m11 bW2)
      | (gi_at_call 24; refine callsIn_of_calls rfl ?_; (with_reducible refine (d2 _ m12).mono ?_); rintro e y4 ⟨rfl, m13, ch4⟩; have K4 := (ch4.block _ (lt_of_heap K3) (by omega)).trans K3; have bW4 := below_chg bW3 ch4; clear m12 bW3)
      | (gi_at_call 22; refine callsIn_of_calls rfl ?_; (with_reducible refine (l2 _ m13).mono ?_); rintro e y5 ⟨rfl, hy5⟩; subst y5))
    exact post_mark1 (fn := Try.f6) (t := 0) rfl K4 (fun W'' hch hsz => ⟨rfl, bW4.trans (hch.below bW4.size (fun b hb e => by omega))⟩)
end Go.Proofs.Ytieohdlmighmkaa.S
