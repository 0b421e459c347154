import Derived.Test.YtjlnfeableleeaaE
import Derived.Test.YtjlnfeableleeaaShelf
namespace Go.Proofs.Ytjlnfeableleeaa
open Go Go.RowKit Go.Shelf Go.Proofs
attribute [local go_sem] Oper.semAt_some
attribute [local go_sem] eql26n eql26f eql32f eql34f eql37f eql42n eql42f wide_fn wide_depth

set_option maxRecDepth 100000 in
set_option maxHeartbeats 1000000 in
/-- **Fold.** -/
theorem fold_any (sv : Value) (xs : List Int) (M Mm : Nat → Prop) (Q : Nat → World → Prop) (hs : GivesO sv xs M Mm Q) (u : Int) (gf : Nat) (lf : Array Value) (h : Int → Int → Int)
    (hf : ∀ a x w, CallsV Try.prog (.func (.func gf) #[] lf) #[(Value.int .i64 (a)), (Value.int .i64 (x))] w fun e w' => e = .returned (Value.int .i64 (h a x)) ∧ w' = w) (W : World) (hM : InW M W) (hq : Q 0 W) :
    Calls Try.prog 20 #[sv, (Value.int .i64 (u)), .func (.func gf) #[] lf] W fun e W' => e = .returned (Value.int .i64 (xs.foldl h u)) ∧ Chg Mm W W' ∧ Q xs.length W' := by
  have hfv := hs.fv
  refine Calls.mono (R := fun e W' => (fun e W' => e = .returned (Value.int .i64 (xs.foldl h u)) ∧ Chg Mm W W' ∧ Q xs.length W') e W') ?_ (fun _ _ h => h)
  obtain ⟨R, hR⟩ : ∃ R : Ending → World → Prop, R = fun e W' => e = .returned (Value.int .i64 (xs.foldl h u)) ∧ Chg Mm W W' ∧ Q xs.length W' := ⟨_, rfl⟩
  rw [← hR]
  have HR : Hid (R = fun e W' => e = .returned (Value.int .i64 (xs.foldl h u)) ∧ Chg Mm W W' ∧ Q xs.length W') := Lib.hid hR
  clear hR
  refine (callsIn_wide (n := 0)).1 ?_
  refine callsIn_of_wp_marks Try.func20 rfl trivial ?_ rfl
  simp only [Try.ntmps20, List.size_toArray, List.length_cons, List.length_nil, Nat.reduceAdd, Nat.reduceSub, Array.replicate_succ, Array.replicate_zero, List.push_toArray, List.append_toArray, List.nil_append, List.cons_append]
  gi_wp2_with (gi_at_call 38; refine (callsIn_wide.2 (tame_any sv hfv _)).mono ?_; rintro e w1 ⟨rfl, rfl⟩)
  obtain ⟨D, hD⟩ : ∃ D, W.heap.size = D := ⟨_, rfl⟩
  obtain ⟨w2, hw2⟩ : ∃ w2, ((W.alloc (.cells #[(Value.int .i64 (u))] 3)).alloc (.cells #[.func (.func gf) #[] lf] 37)).alloc (.cells #[sv] 26) = w2 := ⟨_, rfl⟩
  have hz2' : w2.heap.size = D + 3 := by rw [← hw2]; simp [hD]
  have hch2 : Chg (fun _ => False) W w2 := by rw [← hw2]; exact (((Chg.refl _ W).alloc _).alloc _).alloc _
  have hcD : Cell w2 D (Value.int .i64 (u)) := by rw [← hw2, ← hD]; exact ((Cell.new W _ _).alloc _).alloc _
  have hcF : Cell w2 (D + 1) (.func (.func gf) #[] lf) := by rw [← hw2, ← hD]; exact (Cell.new2 W _ _ _).alloc _
  have hcT : Cell w2 (D + 2) sv := by
    rw [← hw2, ← hD]; have := Cell.new2 (W.alloc (.cells #[(Value.int .i64 (u))] 3)) (.cells #[.func (.func gf) #[] lf] 37) sv 26
    rw [World.size_alloc] at this; exact this
  rw [hw2, hD, show D + 1 + 1 = D + 2 from rfl]
  have hold : ∀ b, b < D → w2.heap[b]? = W.heap[b]? := fun b hb => hch2.block b (by omega) (fun x => x)
  have hMD : ∀ b, M b → b < D := fun b x => by rw [← hD]; exact hM b x
  clear hw2
  refine wpIn_rangeFunc_sep (sv := .func (.func 49) #[] #[(Value.pointer (some ⟨D + 2, 0, none⟩))]) rfl (tame_gives (D + 2) sv xs M Mm Q hs (fun x => by have := hMD _ x; omega)) (fun _ => rfl)
    (fun k T W => (∀ b, T b ↔ b = D ∨ b = D + 1) ∧ Cell W D (Value.int .i64 ((xs.take k).foldl h u)) ∧ Cell W (D + 1) (.func (.func gf) #[] lf))
    (fun _ _ _ _ => False) ?l1 (fun _ _ _ _ _ h => h.elim) (fun b => b = D ∨ b = D + 1) ?hS ?hM ?hSM ?hQ ?h0
    (fun x => { tmps := #[sv, (Value.int .i64 (u)), .func (.func gf) #[] lf, undef, (Value.pointer (some ⟨D, 0, none⟩)), (Value.pointer (some ⟨D + 1, 0, none⟩)), (Value.int .i64 (0)), (Value.int .i64 (x)), .func (.func gf) #[] lf, .bool false, undef, sv, .func (.func 49) #[] #[(Value.pointer (some ⟨D + 2, 0, none⟩))], (Value.int .i64 (x)), undef, undef, undef, undef, undef], defers := [] }) ?assign ?body ?done ?stop
  case l1 =>
    rintro k T A B ⟨hT, a1, a2⟩ hin hsz hb
    exact ⟨hT, a1.of (hb _ ((hT _).2 (.inl rfl))), a2.of (hb _ ((hT _).2 (.inr rfl)))⟩
  case hS => rintro b (rfl | rfl) <;> omega
  case hM =>
    rintro b (x | x)
    · omega
    · have := hMD b x; omega
  case hSM =>
    rintro b (x | x) (y | y)
    · omega
    · have := hMD _ y; omega
    · omega
    · have := hMD _ y; omega
  case hQ => exact ⟨hcT, hs.loc 0 W w2 hq hM (by omega) (fun b x => hold b (hMD b x))⟩
  case h0 => exact ⟨fun b => Iff.rfl, hcD, hcF⟩
  case assign =>
    intro l x W K hK
    dsimp only [enc1]
    gi_wp2
    exact hK
  case body =>
    rintro l k hk T W1 hin hchg ⟨hT, hd1, hd2⟩
    obtain ⟨a, ha⟩ : ∃ a, (xs.take k).foldl h u = a := ⟨_, rfl⟩
    have ha2 : (xs.take (k + 1)).foldl h u = h a xs[k] := by rw [List.take_succ_eq_append_getElem hk, List.foldl_append, ha]; rfl
    have HA : Hid ((xs.take (k + 1)).foldl h u = h a xs[k]) := Lib.hid ha2
    rw [ha] at hd1
    clear ha ha2
    have hfx := hf a xs[k] W1
    have hend : sepPost (fun k T W => (∀ b, T b ↔ b = D ∨ b = D + 1) ∧ Cell W D (Value.int .i64 ((xs.take k).foldl h u)) ∧ Cell W (D + 1) (.func (.func gf) #[] lf)) (fun _ _ _ _ => False) (k + 1) T W1 .normal { tmps := #[], defers := [] } (W1.setCell ⟨D, 0, none⟩ (Value.int .i64 (h a xs[k]))) := by
      have hc : Chg T W1 (W1.setCell ⟨D, 0, none⟩ (Value.int .i64 (h a xs[k]))) := (Chg.refl T W1).setCell (fun _ => (hT _).2 (.inl rfl)) _
      exact ⟨T, .refl _ _, hin.later hc.size, hc, hT, by rw [HA.out]; exact hd1.set _, hd2.other (by omega) _⟩
    obtain ⟨d1, e1⟩ := hd1
    obtain ⟨d2, e2⟩ := hd2
    gi_wp2_with ((with_reducible refine wpListIn_callV ?_ ?_ (.func (.func gf) #[] lf) [(Value.int .i64 (a)), (Value.int .i64 (xs[k]))] ?_ ?_ ?_); rfl; rfl; rfl; rfl; refine hfx.mono ?_; clear hfx; rintro e W3 ⟨rfl, rfl⟩; refine ⟨_, rfl, ?_⟩)
    exact hend
  case done =>
    rintro S' W' hg hi hc ⟨hT, d1, d2⟩ ⟨d3, d4⟩ hK hnD'
    rw [List.take_length] at d1
    have fin : ∀ W'', Chg (fun b => b = w2.heap.size) W' W'' → W''.heap.size = W'.heap.size → R (.returned (Value.int .i64 (xs.foldl h u))) W'' := fun W'' hch hsz => by
      have hsz' := hc.size
      rw [HR.out]
      refine ⟨rfl, ?_, hs.loc _ W' W'' d4 (fun b x => by have := hMD b x; omega) (by omega) (fun b x => hch.block b (by have := hMD b x; omega) (by have := hMD b x; omega))⟩
      exact (hch2.trans hc (T := Mm) (fun _ _ x => x.elim) (fun b hb x => by
        rcases x with (x | x) | x
        · omega
        · omega
        · exact x)).trans hch (fun _ _ x => x) (fun b hb x => by omega)
    obtain ⟨dc, df⟩ := d1
    gi_wp2_with fail
    exact post_mark1 (fn := Try.f20) (t := 6) rfl hK fin
  case stop => exact fun _ _ _ _ _ _ _ _ _ h => h.elim
end Go.Proofs.Ytjlnfeableleeaa
