import Derived.Test.YtglfmbpcapendaaL
namespace Go.Proofs.Ytglfmbpcapendaa.S
open Go Go.RowKit Go.Shelf Go.Proofs Go.Proofs.Ytglfmbpcapendaa
variable {M : Nat}

theorem run_store_func {P : Program} {w : World} {m : Mode} {ad : Addr} (f : Fn) (a b : Array Value) : (store ad (.func f a b) m).run P w = stored P w ad (.func f a b) m := run_store P w ad _ m rfl
attribute [local go_sem] run_store_func

theorem all_any (mb : Nat) (W : World) : Calls Try.prog 26 #[(Value.pointer (some ⟨mb, 2, none⟩))] W fun e w' => e = .returned (Value.pointer (some ⟨mb, 2, none⟩)) ∧ w' = W := by
  go_enter Try.func26, Try.ntmps26
  go_wp2
  go_ret
  exact ⟨rfl, rfl⟩
/-- The map of a zero Dict is laid anew. -/
theorem laid_zero {W0 W x1 : World} {mb : Nat} {cv : Value} (h : Mp (M := M) 0 W0 cv keyOf mb [] W) (hx : Below W.heap.size W x1) :
    Mp (M := M) 0 W0 cv19 keyOf mb [] ((x1.setCell ⟨mb, 2, none⟩ cv19).setCell ⟨mb, 3, none⟩ (.pointer none)) ∧ Chm mb W ((x1.setCell ⟨mb, 2, none⟩ cv19).setCell ⟨mb, 3, none⟩ (.pointer none)) := by
  have h1 := h.later hx
  obtain ⟨t, p, d1, d2, d3⟩ := h1.rt
  have c0 := h1.c0
  refine ⟨⟨Nat.zero_le _, ?_, ⟨.nil, none, ?_, rfl, rfl⟩, fun j => by rw [World.frozen?_setCell, World.frozen?_setCell]; exact h1.fz j, Srt.nil, ?_, (h1.ty.set 2 _).set 3 _⟩, ?_, fun j hj2 hj3 => ?_⟩
  · rw [World.cell?_setCell_other _ _ _ _ (by simp)]
    exact World.cell?_setCell_same _ _ _ c0
  · refine World.cell?_setCell_same (u := .pointer p) _ _ _ ?_
    rw [World.cell?_setCell_other _ _ _ _ (by simp)]
    exact d1
  · exact (h1.bel.setCell (Nat.zero_le _) _).setCell (Nat.zero_le _) _
  · exact ((Chg.of_below (S := fun b => b = mb) hx).setCell (fun _ => rfl) _).setCell (fun _ => rfl) _
  · rw [World.cell?_setCell_other _ _ _ _ (fun e => hj3 (by cases e; rfl)), World.cell?_setCell_other _ _ _ _ (fun e => hj2 (by cases e; rfl))]
    exact World.cell?_of_block (w := W) (hx.block mb h.lt)
theorem mk0 {W0 W : World} {mb : Nat} (h : Mp (M := M) 0 W0 cv19 keyOf mb [] W) : Dm (M := M) W0 mb [] W := ⟨⟨cv19, h, .inr rfl⟩, fun p hp => by simp at hp, by simp⟩
set_option maxRecDepth 100000 in
set_option maxHeartbeats 1000000 in
theorem add_any {W0 W : World} {mb : Nat} {L : List (K M × Int)} (s : K M) (h : Dm W0 mb L W) (hl : L.length + 1 ≤ 999999) (ht : tm s L + 1 ≤ 1000000) :
    Calls Try.prog 24 #[(Value.pointer (some ⟨mb, 2, none⟩)), .string s.1] W fun e w' => e = .returned (.bool (!has s L)) ∧ Dm W0 mb (insL keyOf s (tm s L + 1) L) w' ∧ Chm mb W w' := by
  obtain ⟨cv, h1, h2⟩ := h.mp
  have hbd := h.tm_bd s
  have hpos := Lib.hid h.pos
  have hlen := len_any h
  have hlt0 := h.lt
  by_cases he : L = []
  · subst he
    have hb1 := h.bel
    obtain ⟨hb, hhb⟩ : ∃ hb, W.heap.size = hb := ⟨_, rfl⟩
    have hnew := new_any 30 #[] W
    rw [hhb] at hnew
    have hmb := h.lt
    obtain ⟨t, p, d1, d2, d3⟩ := h1.rt
    have HX := fun x1 (hx : Below W.heap.size W x1) => laid_zero h1 hx
    have hz := fun x1 (hx : Below W.heap.size W x1) => h1.later hx
    have e0 : tm s ([] : List (K M × Int)) = 0 := rfl
    have e1 : has s ([] : List (K M × Int)) = false := rfl
    have hg0 : ∀ y, Mp (M := M) 0 W0 cv19 keyOf mb [] y → Calls Try.prog 31 #[(Value.pointer (some ⟨mb, 2, none⟩)), .string s.1] y fun e w' => e = .returned (.tuple #[(Value.int .i64 (0)), .bool false]) ∧ Below y.heap.size y w' := fun y m => get_any s (mk0 m)
    rw [e0, e1]
    clear hbd ht hl h2 hpos d1 d2 d3 e0 e1
    go_enter Try.func24, Try.ntmps24
    go_wp2_with (first
      | (go_at_call 27; (with_reducible refine hlen.mono ?_); rintro e w' ⟨rfl, hw⟩; subst w')
      | (go_at_call 29; (with_reducible refine hnew.mono ?_); rintro e x1 ⟨rfl, k0, k1, b1⟩; rw [← hhb] at b1; obtain ⟨n1, g1⟩ := HX x1 b1; have z1 := hz x1 b1; have y0 := z1.c0; obtain ⟨_, pp, y1, _, _⟩ := z1.rt; have f0 := z1.fz 2; have f1 := z1.fz 3)
      | (go_at_call 31; (with_reducible refine (hg0 _ n1).mono ?_); rintro e x2 ⟨rfl, b2⟩; have n2 := n1.later b2; have hput : Calls Try.prog 32 #[(Value.pointer (some ⟨mb, 2, none⟩)), .string s.1, (Value.int .i64 (1))] x2 fun e w' => e = .returned (.bool true) ∧ Dm W0 mb (insL keyOf s (0 + 1) []) w' ∧ Chm mb x2 w' := put_any' (L := []) s 1 (by omega) (by simp) n2 (by simp))
      | (go_at_call 32; (with_reducible refine hput.mono ?_); rintro e x3 ⟨rfl, d3, c3⟩))
    go_ret
    exact ⟨rfl, d3, (g1.trans (Chm.of_below n1.lt b2)).trans c3⟩
  · have hcv : cv = cv19 := h2.resolve_left he
    subst hcv
    have hne : L.length ≠ 0 := fun e => he (List.length_eq_zero_iff.1 e)
    obtain ⟨zl, hzl⟩ : ∃ zl, L.length = zl := ⟨_, rfl⟩
    rw [hzl] at hlen hne
    have hle : decide ((zl : Int) = 0) = false := decide_eq_false (by omega)
    have hbe : ((zl : Int) == 0) = false := by simp; omega
    have hget := get_any s h
    obtain ⟨tv, htv⟩ : ∃ tv, tm s L = tv := ⟨_, rfl⟩
    obtain ⟨hv, hhv⟩ : ∃ hv, has s L = hv := ⟨_, rfl⟩
    have hput := fun x (hx : Below W.heap.size W x) => put_any' s (tm s L + 1) (by omega) hl (h1.later hx) hpos.out
    rw [htv, hhv] at hget hput ⊢
    rw [htv] at hbd ht
    have hwt : IntKind.i64.wrap (tv + 1) = tv + 1 := by rw [IntKind.wrap_i64]; omega
    have HT := Lib.hid htv
    have HH := Lib.hid hhv
    clear htv hhv hzl he h2 h1 hpos
    go_enter Try.func24, Try.ntmps24
    go_wp2_with (first
      | (go_at_call 27; (with_reducible refine hlen.mono ?_); rintro e w' ⟨rfl, hw⟩; subst w')
      | (go_at_call 31; (with_reducible refine hget.mono ?_); rintro e x2 ⟨rfl, b2⟩)
      | (go_at_call 32; (with_reducible refine (hput _ b2).mono ?_); rintro e x3 ⟨rfl, d3, c3⟩))
    go_ret
    exact ⟨rfl, d3, (Chm.of_below hlt0 b2).trans c3⟩
end Go.Proofs.Ytglfmbpcapendaa.S
