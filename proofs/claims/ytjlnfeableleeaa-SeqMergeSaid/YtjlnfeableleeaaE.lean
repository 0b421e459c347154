import Derived.Test.YtjlnfeableleeaaB
import Derived.Maps.OwnIn
import Derived.Maps.AppendAt
import Derived.RangeFuncBox
namespace Go.Proofs.Ytjlnfeableleeaa
open Go Go.RowKit Go.Shelf Go.Proofs
attribute [local go_sem] Oper.semAt_some
attribute [local go_sem] eql26n eql26f eql32f eql34f eql37f eql42n eql42f wide_fn wide_depth

theorem info3 : (Try.prog.info? 3).map (fun i => (i.zero, i.size, i.bytes)) = some (some (.int .i64 0), 1, 8) := by kernel_rfl

/-- A new slice of one's own that holds the ints xs. -/
def Row (W : World) (base : Nat) (v : Value) (xs : List Int) : Prop := W.ownsRow base 3 1 v xs.length (xs.map (Value.int .i64))
theorem Row.of {W W' : World} {base : Nat} {v : Value} {xs : List Int} (h : Row W base v xs) (hb : ∀ b, v.ownBlock = some b → W'.heap[b]? = W.heap[b]?) : Row W' base v xs := by
  obtain ⟨h1, h2⟩ := h
  refine ⟨h1, ?_⟩
  rcases h2 with h2 | ⟨g, cap, cur, hv, hg, hh, r⟩
  · exact .inl h2
  · exact .inr ⟨g, cap, cur, hv, hg, by rw [hb g (by rw [hv]; rfl)]; exact hh, r⟩

/-- What Collect and its like tell. -/
def Listed (xs : List Int) (Mm : Nat → Prop) (Q : Nat → World → Prop) (W : World) (e : Ending) (W' : World) : Prop :=
  ∃ v, e = .returned v ∧ Row W' W.heap.size v xs ∧ Chg Mm W W' ∧ Q xs.length W'

set_option maxRecDepth 100000 in
set_option maxHeartbeats 1000000 in
theorem f51_any (g : Nat) (lb : Array Value) (xs : List Int) (M Mm : Nat → Prop) (Q : Nat → World → Prop) (hs : Gives Try.prog (.func (.func g) #[] lb) enc1 xs M Mm Q) (hlen : xs.length ≤ 1000000) (W : World) (hM : InW M W) (hq : Q 0 W) :
    Calls Try.prog 51 #[.slice none 0 0, .func (.func g) #[] lb] W (Listed xs Mm Q W) := by
  obtain ⟨i0, hi, hz0, hz1, hz2⟩ := info_parts info3
  refine (callsIn_wide (n := 0)).1 ?_
  refine callsIn_of_wp_marks Try.func51 rfl trivial ?_ rfl
  simp only [Try.ntmps51, List.size_toArray, List.length_cons, List.length_nil, Nat.reduceAdd, Nat.reduceSub, Array.replicate_succ, Array.replicate_zero, List.push_toArray, List.append_toArray, List.nil_append, List.cons_append]
  gi_wp2_with fail
  obtain ⟨D, hD⟩ : ∃ D, W.heap.size = D := ⟨_, rfl⟩
  obtain ⟨w2, hw2⟩ : ∃ w2, W.alloc (.cells #[.slice none 0 0] 22) = w2 := ⟨_, rfl⟩
  have hz2' : w2.heap.size = D + 1 := by rw [← hw2]; simp [hD]
  have hch2 : Chg (fun _ => False) W w2 := by rw [← hw2]; exact (Chg.refl _ W).alloc _
  have hcD : Cell w2 D (.slice none 0 0) := by rw [← hw2, ← hD]; exact Cell.new W _ _
  rw [hw2, hD]
  have hold : ∀ b, b < D → w2.heap[b]? = W.heap[b]? := fun b hb => hch2.block b (by omega) (fun x => x)
  have hMD : ∀ b, M b → b < D := fun b x => by rw [← hD]; exact hM b x
  clear hw2
  refine wpIn_rangeFunc_sep (sv := .func (.func g) #[] lb) rfl hs (fun _ => rfl)
    (fun k T W => k ≤ xs.length ∧ ∃ v, (∀ b, T b ↔ b = D ∨ v.ownBlock = some b) ∧ Cell W D v ∧ Row W D v (xs.take k) ∧ v.ownBlock ≠ some D)
    (fun _ _ _ _ => False) ?l1 (fun _ _ _ _ _ h => h.elim) (fun b => b = D) ?hS ?hM ?hSM ?hQ ?h0
    (fun x => { tmps := #[.slice none 0 0, .func (.func g) #[] lb, (Value.pointer (some ⟨D, 0, none⟩)), undef, .slice none 0 0, (Value.int .i64 (x)), .func (.func g) #[] lb, (Value.int .i64 (x)), undef, undef, undef, undef, undef], defers := [] }) ?assign ?body ?done ?stop
  case l1 =>
    rintro k T A B ⟨hk, v, hT, a1, a2, a3⟩ hin hsz hb
    exact ⟨hk, v, hT, a1.of (hb _ ((hT _).2 (.inl rfl))), a2.of (fun b x => hb b ((hT b).2 (.inr x))), a3⟩
  case hS => rintro b rfl; omega
  case hM => intro b x; have := hMD b x; omega
  case hSM => rintro b rfl x; have := hMD _ x; omega
  case hQ => exact hs.1 0 W w2 hq hM (by omega) (fun b x => hold b (hMD b x))
  case h0 => exact ⟨Nat.zero_le _, .slice none 0 0, fun b => by simp [Value.ownBlock], hcD, World.ownsRow_nil _ _ _ _, by simp [Value.ownBlock]⟩
  case assign =>
    intro l x W K hK
    dsimp only [enc1]
    gi_wp2
    exact hK
  case body =>
    rintro l k hk T W1 hin hchg ⟨_, v, hT, ⟨d1, e1⟩, hrow, hne⟩
    have hsz := hchg.size
    have hlt : D < W1.heap.size := hin D ((hT _).2 (.inl rfl))
    have hlen1 : (xs.take k).length = k := by rw [List.length_take]; omega
    have hrow' : W1.ownsRow D 3 1 v k ((xs.take k).map (Value.int .i64)) := by have := hrow; unfold Row at this; rw [hlen1] at this; exact this
    have hmax : k + 1 ≤ maxLen := by unfold maxLen; omega
    have hvlt := hrow'.lt
    have hnext : ∀ v' w', w'.ownsRow D 3 1 v' (k + 1) ((xs.take k).map (Value.int .i64) ++ [(Value.int .i64 (xs[k]))]) → (W1.alloc (.cells #[(Value.int .i64 (xs[k]))] 3)).grownBy w' v.ownBlock →
        (v'.ownBlock = v.ownBlock ∨ v'.ownBlock = some (W1.alloc (.cells #[(Value.int .i64 (xs[k]))] 3)).heap.size) →
        sepPost (fun k T W => k ≤ xs.length ∧ ∃ v, (∀ b, T b ↔ b = D ∨ v.ownBlock = some b) ∧ Cell W D v ∧ Row W D v (xs.take k) ∧ v.ownBlock ≠ some D) (fun _ _ _ _ => False) (k + 1) T W1 .normal { tmps := #[], defers := [] } (w'.setCell ⟨D, 0, none⟩ v') ∧ w'.cell? ⟨D, 0, none⟩ = some v ∧ w'.frozen? ⟨D, 0, none⟩ = false := fun v' w' ho hg hat => by
      have hc1 : Chg T W1 w' := ((Chg.refl T W1).alloc _).grown hg (fun b x _ => (hT b).2 (.inr x))
      have hblk : w'.heap[D]? = W1.heap[D]? := (hg.block D (by simp; omega) (fun x => hne x.symm)).trans (Below.heap_alloc _ _ _ hlt)
      have hcell : Cell w' D v := Cell.of ⟨d1, e1⟩ hblk
      have hne' : v'.ownBlock ≠ some D := by
        rcases hat with x | x
        · rw [x]; exact hne
        · rw [x]; simp; omega
      have hsz1 : (w'.setCell ⟨D, 0, none⟩ v').heap.size = w'.heap.size := by simp [World.setCell]
      have hsz2 := hc1.size
      refine ⟨⟨fun b => b = D ∨ v'.ownBlock = some b, ?_, ?_, hc1.setCell (fun _ => (hT _).2 (.inl rfl)) _, by omega, v', fun _ => Iff.rfl, hcell.set _, ?_, hne'⟩, hcell.1, hcell.2⟩
      · rintro b (x | x)
        · exact .inl ((hT b).2 (.inl x))
        · rcases hat with y | y
          · rw [y] at x; exact .inl ((hT b).2 (.inr x))
          · rw [y] at x; simp at x; exact .inr (by omega)
      · rintro b (x | x)
        · rw [hsz1]; omega
        · rw [hsz1]; exact (ho.lt b x).2
      · have hr : Row w' D v' (xs.take (k + 1)) := by
          unfold Row
          rw [List.take_succ_eq_append_getElem hk]
          simp only [List.length_append, hlen1, List.length_cons, List.length_nil, List.map_append, List.map_cons, List.map_nil]
          exact ho
        exact hr.of (fun b x => Below.heap_setCell _ _ _ _ (fun e => hne' (x.trans (congrArg some e))))
    clear hrow hin hT hvlt hlen1 hchg
    gi_wp2_with (gi_at_builtin; refine wpListIn_append_own_at _ rfl _ _ 22 rfl D 3 i0 (.int .i64 0) 1 8 Try.underlying22 hi hz0 hz1 hz2 rfl (by decide) v k _ rfl (hrow'.alloc _) ⟨W1.heap.size, 0, none⟩ 1 1 [(Value.int .i64 (xs[k]))] rfl rfl (cell_one_new _ _ _) (by simp [Value.oneCell']) hmax (by omega) (by simp; omega) ?_; intro v' w1 hown' hgrow _ hat; obtain ⟨hend, hcc, hff⟩ := hnext v' w1 hown' hgrow hat; obtain ⟨g', cap', rfl⟩ := ownsRow_succ hown')
    exact hend
  case done =>
    rintro S' W' hg hi hc ⟨_, v, hT, d1, d2, d3⟩ d4 hK hnD'
    rw [List.take_length] at d2
    have fin : ∀ W'', Chg (fun b => b = w2.heap.size) W' W'' → W''.heap.size = W'.heap.size → Listed xs Mm Q W (.returned v) W'' := fun W'' hch hsz => by
      have hsz' := hc.size
      refine ⟨v, rfl, ?_, ?_, hs.1 _ W' W'' d4 (fun b x => by have := hMD b x; omega) (by omega) (fun b x => hch.block b (by have := hMD b x; omega) (by have := hMD b x; omega))⟩
      · rw [hD]
        exact d2.of (fun b x => hch.block b (d2.lt b x).2 (fun e => hnD' ((hT _).2 (.inr (x.trans (congrArg some e))))))
      · exact (hch2.trans hc (T := Mm) (fun _ _ x => x.elim) (fun b hb x => by rcases x with x | x; (· omega); exact x)).trans hch (fun _ _ x => x) (fun b hb x => by omega)
    obtain ⟨dc, df⟩ := d1
    gi_wp2_with fail

    exact post_mark1 (fn := Try.f51) (t := 4) rfl hK fin
  case stop => exact fun _ _ _ _ _ _ _ _ _ h => h.elim

set_option maxHeartbeats 1000000 in
theorem f39_any (g : Nat) (lb : Array Value) (xs : List Int) (M Mm : Nat → Prop) (Q : Nat → World → Prop) (hs : Gives Try.prog (.func (.func g) #[] lb) enc1 xs M Mm Q) (hlen : xs.length ≤ 1000000) (W : World) (hM : InW M W) (hq : Q 0 W) :
    Calls Try.prog 39 #[.func (.func g) #[] lb] W (Listed xs Mm Q W) := by
  go_enter Try.func39, Try.ntmps39
  go_wp2_with (go_at_call 51; refine (f51_any g lb xs M Mm Q hs hlen W hM hq).mono ?_; rintro e w1 ⟨v, rfl, hp⟩)
  go_ret
  exact ⟨v, rfl, hp⟩

set_option maxHeartbeats 1000000 in
/-- **List: of an iterator, or of nil.** -/
theorem list_any (sv : Value) (xs : List Int) (M Mm : Nat → Prop) (Q : Nat → World → Prop) (hs : GivesO sv xs M Mm Q) (hlen : xs.length ≤ 1000000) (W : World) (hM : InW M W) (hq : Q 0 W) :
    Calls Try.prog 13 #[sv] W (Listed xs Mm Q W) := by
  have hfv := hs.fv
  have ht := tame_gives W.heap.size sv xs M Mm Q hs (fun x => by have := hM _ x; omega)
  have h39 := f39_any 49 #[(Value.pointer (some ⟨W.heap.size, 0, none⟩))] xs _ _ _ ht hlen (W.alloc (.cells #[sv] 26)) (by
    rintro b (rfl | x)
    · simp
    · have := hM b x; simp; omega) ⟨Cell.new W _ _, hs.loc 0 W _ hq hM (by simp) (fun b x => Below.heap_alloc _ _ _ (hM b x))⟩
  have h39' : Calls Try.prog 39 #[.func (.func 49) #[] #[(Value.pointer (some ⟨W.heap.size, 0, none⟩))]] (W.alloc (.cells #[sv] 26)) (Listed xs Mm Q W) := by
    refine h39.mono ?_
    rintro e w1 ⟨v, rfl, h1, h2, h3, h4⟩
    refine ⟨v, rfl, ?_, ((Chg.refl Mm W).alloc _).trans h2 (fun _ _ x => x) (fun b hb x => x), h4⟩
    obtain ⟨a1, a2⟩ := h1
    refine ⟨a1, ?_⟩
    rcases a2 with a2 | ⟨gg, cap, cur, b1, b2, b3⟩
    · exact .inl a2
    · exact .inr ⟨gg, cap, cur, b1, by simp at b2; omega, b3⟩
  clear h39 ht
  go_enter Try.func13, Try.ntmps13
  go_wp2_with (first
    | (go_at_call 38; refine (tame_any sv hfv W).mono ?_; rintro e w1 ⟨rfl, rfl⟩)
    | (go_at_call 39; refine h39'.mono ?_; rintro e w1 ⟨v, rfl, hp⟩))
  go_ret
  exact ⟨v, rfl, hp⟩
end Go.Proofs.Ytjlnfeableleeaa
