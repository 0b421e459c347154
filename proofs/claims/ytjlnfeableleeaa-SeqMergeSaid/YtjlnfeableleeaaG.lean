import Derived.Test.YtjlnfeableleeaaF
import Derived.Deep.QuietTactic
import Derived.BigQuiet
import Derived.Test.YtjlnfeableleeaaC
import Derived.Test.YtjlnfeableleeaaD
import Derived.IntWalk
namespace Go.Proofs.Ytjlnfeableleeaa
open Go Go.RowKit Go.Shelf Go.Proofs
attribute [local go_sem] eql26n eql26f eql32f eql34f eql37f eql42n eql42f wide_fn wide_depth

set_option maxHeartbeats 1000000 in
theorem eq_ne (oa ob : Option Addr) (n m ca cb : Nat) (h : n ≠ m) (W : World) :
    Calls Try.prog 12 #[.slice oa n ca, .slice ob m cb] W fun e W' => e = .returned (.bool false) ∧ W' = W := by
  have h1 : ((n : Int) == (m : Int)) = false := by simp; omega
  have h2 : ((n : Int) != (m : Int)) = true := by simp; omega
  have h3 : ¬ (n : Int) = (m : Int) := by omega
  go_enter Try.func12, Try.ntmps12
  go_wp2
  go_ret
  exact ⟨rfl, rfl⟩

set_option maxHeartbeats 1000000 in
theorem eq_zero (oa ob : Option Addr) (ca cb : Nat) (W : World) :
    Calls Try.prog 12 #[.slice oa 0 ca, .slice ob 0 cb] W fun e W' => e = .returned (.bool true) ∧ W' = W := by
  go_enter Try.func12, Try.ntmps12
  go_wp2
  go_loop [5] (fun i => i = .int .i64 0) (fun _ => 0)
  case atStart => exact rfl
  case round =>
    obtain rfl := hrel
    go_wp2
    go_ret
    exact ⟨rfl, rfl⟩

set_option maxRecDepth 100000 in
set_option maxHeartbeats 1000000 in
theorem eq_some (ba oa ca bb ob cb : Nat) (xs ys : List Int) (hlen : xs.length = ys.length) (hl : xs.length ≤ 1000000) (W : World)
    (hx : ∀ j, j < xs.length → W.cell? ⟨ba, oa + j, none⟩ = some (Value.int .i64 (xs[j]?.getD 0))) (hy : ∀ j, j < ys.length → W.cell? ⟨bb, ob + j, none⟩ = some (Value.int .i64 (ys[j]?.getD 0))) :
    Calls Try.prog 12 #[.slice (some ⟨ba, oa, none⟩) xs.length ca, .slice (some ⟨bb, ob, none⟩) xs.length cb] W fun e W' => e = .returned (.bool (decide (xs = ys))) ∧ ∃ n, W' = W.drewN n := by
  obtain ⟨n, hn⟩ : ∃ n, xs.length = n := ⟨_, rfl⟩
  have hny : ys.length = n := by omega
  rw [hn] at hx hl ⊢
  rw [hny] at hy
  obtain ⟨r, hr⟩ : ∃ r, decide (xs = ys) = r := ⟨_, rfl⟩
  rw [hr]
  have HR : Hid (decide (xs = ys) = r) := Lib.hid hr
  have HN : Hid (xs.length = n ∧ ys.length = n) := Lib.hid ⟨hn, hny⟩
  clear hr hn hny hlen
  go_enter Try.func12, Try.ntmps12
  go_wp2
  go_loopw [5] (fun i wr => ∃ k : Nat, k ≤ n ∧ i = .int .i64 (k : Int) ∧ xs.take k = ys.take k ∧ ∃ q, wr = W.drewN q) (fun i _ => n - (intOf i).toNat)
  case atStart => exact ⟨0, Nat.zero_le _, rfl, rfl, 0, rfl⟩
  case round =>
    obtain ⟨k, hk, rfl, htake, q, rfl⟩ := hrel
    by_cases hlt : k < n
    · have hx1 := hx k hlt
      have hy1 := hy k hlt
      have h1 := HN.out.1
      have h2 := HN.out.2
      have hk1 : k < xs.length := by omega
      have hk2 : k < ys.length := by omega
      have ex : xs[k]?.getD 0 = xs[k] := by simp [hk1]
      have ey : ys[k]?.getD 0 = ys[k] := by simp [hk2]
      rw [ex] at hx1
      rw [ey] at hy1
      have HT : Hid (xs.take k = ys.take k) := Lib.hid htake
      clear hx hy ex ey h1 h2 htake
      obtain ⟨x, hxx⟩ : ∃ x, xs[k] = x := ⟨_, rfl⟩
      obtain ⟨y, hyy⟩ : ∃ y, ys[k] = y := ⟨_, rfl⟩
      rw [hxx] at hx1
      rw [hyy] at hy1
      have HX : Hid (xs[k] = x ∧ ys[k] = y) := Lib.hid ⟨hxx, hyy⟩
      clear hxx hyy
      by_cases hxy : x = y
      · have t1 : (x == y) = true := by simpa using hxy
        have t2 : (x != y) = false := by simpa using hxy
        have HE : Hid (x = y) := Lib.hid hxy
        clear hxy
        go_wp2
        go_quiet (fail)
        go_wp2
        go_roundw
        case rel =>
          refine ⟨k + 1, by omega, by simp, ?_, q + nq, by simp⟩
          rw [List.take_succ_eq_append_getElem hk1, List.take_succ_eq_append_getElem hk2, HT.out, HX.out.1, HX.out.2, HE.out]
        case measure => simp [intOf]; omega
      · have t1 : (x == y) = false := by simpa using hxy
        have t2 : (x != y) = true := by simpa using hxy
        have HE : Hid (x ≠ y) := Lib.hid hxy
        go_wp2
        go_quiet (fail)
        go_wp2
        go_ret
        refine ⟨?_, q + nq, by simp⟩
        rw [← HR.out]
        have : xs ≠ ys := fun e => HE.out (by
          have h1 := HX.out.1
          have h2 := HX.out.2
          subst e
          exact h1.symm.trans h2)
        simp [this]
    · obtain rfl : k = n := by omega
      clear hx hy
      go_wp2
      go_ret
      have h1 := HN.out.1
      have h2 := HN.out.2
      refine ⟨?_, q, rfl⟩
      rw [← HR.out]
      have : xs = ys := by rw [← List.take_length (l := xs), ← List.take_length (l := ys), h1, h2]; exact htake
      simp [this]

/-- **eq: are the ints the same?** -/
theorem eq_any (sa sb : Value) (xs ys : List Int) (Ba Bb : Nat → Prop) (W : World) (ha : Ints W sa xs Ba) (hb : Ints W sb ys Bb) (hl : xs.length ≤ 1000000) :
    Calls Try.prog 12 #[sa, sb] W fun e W' => e = .returned (.bool (decide (xs = ys))) ∧ ∃ n, W' = W.drewN n := by
  have key : ∀ (pa pb : Option Addr) (ca cb : Nat), sa = .slice pa xs.length ca → sb = .slice pb ys.length cb → (∀ j, j < xs.length → ∃ b o, pa = some ⟨b, o, none⟩) → 
      Calls Try.prog 12 #[sa, sb] W fun e W' => e = .returned (.bool (decide (xs = ys))) ∧ ∃ n, W' = W.drewN n := by
    rintro pa pb ca cb rfl rfl _
    by_cases hne : xs.length = ys.length
    · by_cases h0 : xs.length = 0
      · have e1 : xs = [] := List.length_eq_zero_iff.1 h0
        have e2 : ys = [] := List.length_eq_zero_iff.1 (by omega)
        subst e1; subst e2
        refine (eq_zero pa pb ca cb W).mono ?_
        rintro e w' ⟨rfl, rfl⟩
        exact ⟨rfl, 0, rfl⟩
      · rcases ha with ⟨_, rfl⟩ | ⟨ba, oa, ca', ea, _, hx⟩
        · exact absurd rfl h0
        rcases hb with ⟨_, rfl⟩ | ⟨bb, ob, cb', eb, _, hy⟩
        · simp at hne; exact absurd (by rw [hne]; rfl) h0
        cases ea
        cases eb
        rw [← hne]
        exact eq_some ba oa ca bb ob cb xs ys hne hl W hx hy
    · refine (eq_ne pa pb xs.length ys.length ca cb hne W).mono ?_
      rintro e w' ⟨rfl, rfl⟩
      have : xs ≠ ys := fun e => hne (by rw [e])
      exact ⟨by simp [this], 0, rfl⟩
  rcases ha with ⟨rfl, rfl⟩ | ⟨ba, oa, ca, rfl, h1, h2⟩
  · rcases hb with ⟨rfl, rfl⟩ | ⟨bb, ob, cb, rfl, h3, h4⟩
    · exact key none none 0 0 rfl rfl (fun j hj => by simp at hj)
    · exact key none _ 0 cb rfl rfl (fun j hj => by simp at hj)
  · rcases hb with ⟨rfl, rfl⟩ | ⟨bb, ob, cb, rfl, h3, h4⟩
    · exact key _ none ca 0 rfl rfl (fun j hj => ⟨_, _, rfl⟩)
    · exact key _ _ ca cb rfl rfl (fun j hj => ⟨_, _, rfl⟩)

/-! ### Iterators that turn nothing of their own -/
/-- In W the value sv gives xs, and turns nothing. -/
def Sq (W : World) (sv : Value) (xs : List Int) : Prop := ∃ M Q, GivesO sv xs M (fun _ => False) (fun _ => Q) ∧ InW M W ∧ Q W
theorem Sq.later {W W' : World} {sv : Value} {xs : List Int} (h : Sq W sv xs) (hb : Below W.heap.size W W') : Sq W' sv xs := by
  obtain ⟨M, Q, h1, h2, h3⟩ := h
  exact ⟨M, Q, h1, h2.later hb.size, h1.loc 0 W W' h3 h2 hb.size (fun b x => hb.block b (h2 b x))⟩
theorem Sq.fv {W : World} {sv : Value} {xs : List Int} (h : Sq W sv xs) : Fv sv := by
  obtain ⟨M, Q, h1, _⟩ := h
  exact h1.fv
theorem sq_nil (W : World) : Sq W .nilFunc [] := ⟨fun _ => False, fun _ => True, .inr ⟨rfl, rfl, rfl, fun _ x => x⟩, fun _ x => x.elim, trivial⟩

theorem below_alloc2 (W : World) (a b : Obj) : Below W.heap.size W ((W.alloc a).alloc b) := ((Below.refl _ W).alloc (Nat.le_refl _) a).alloc (by simp) b

/-- What a maker of an iterator hands back. -/
def Makes (xs : List Int) (W : World) (e : Ending) (W' : World) : Prop := ∃ g lb, e = .returned (.func (.func g) #[] lb) ∧ Sq W' (.func (.func g) #[] lb) xs ∧ Below W.heap.size W W'

theorem sq_take (sv : Value) (xs : List Int) (W : World) (h : Sq W sv xs) (n : Int) (hn : n ≤ 9223372036854775807) : Calls Try.prog 18 #[sv, (Value.int .i64 (n))] W (Makes (xs.take n.toNat) W) := by
  refine (take_any sv h.fv n W).mono ?_
  rintro e W' ⟨rfl, rfl⟩
  obtain ⟨M, Q, h1, h2, h3⟩ := h
  have hg := take_gives (W.heap.size + 1) W.heap.size sv n hn xs M _ (fun _ => Q) h1 (fun x => by have := h2 _ x; omega) (fun x => by have := h2 _ x; omega)
  refine ⟨_, _, rfl, ⟨_, _, .inl hg, ?_, Cell.new2 W _ _ _, (Cell.new W _ _).alloc _, h1.loc 0 W _ h3 h2 (by simp; omega) (fun b x => (below_alloc2 W _ _).block b (h2 b x))⟩, below_alloc2 W _ _⟩
  rintro b (rfl | rfl | x)
  · simp
  · simp; omega
  · have := h2 b x; simp; omega

theorem sq_skip (sv : Value) (xs : List Int) (W : World) (h : Sq W sv xs) (n : Int) (hn0 : -9223372036854775808 ≤ n) (hn : n ≤ 9223372036854775807) : Calls Try.prog 19 #[sv, (Value.int .i64 (n))] W (Makes (xs.drop n.toNat) W) := by
  refine (skip_any sv h.fv n W).mono ?_
  rintro e W' ⟨rfl, rfl⟩
  obtain ⟨M, Q, h1, h2, h3⟩ := h
  have hg := skip_gives (W.heap.size + 1) W.heap.size sv n hn0 hn xs M _ Q h1 (fun x => by have := h2 _ x; omega) (fun x => by have := h2 _ x; omega)
  refine ⟨_, _, rfl, ⟨_, _, .inl hg, ?_, Cell.new2 W _ _ _, (Cell.new W _ _).alloc _, h1.loc 0 W _ h3 h2 (by simp; omega) (fun b x => (below_alloc2 W _ _).block b (h2 b x))⟩, below_alloc2 W _ _⟩
  rintro b (rfl | rfl | x)
  · simp
  · simp; omega
  · have := h2 b x; simp; omega

theorem sq_keep (sv : Value) (xs : List Int) (W : World) (h : Sq W sv xs) (gf : Nat) (lf : Array Value) (p : Int → Bool) (hf : ∀ x w, CallsV Try.prog (.func (.func gf) #[] lf) (enc1 x) w fun e w' => e = .returned (.bool (p x)) ∧ w' = w) :
    Calls Try.prog 16 #[sv, .func (.func gf) #[] lf] W (Makes (xs.filter p) W) := by
  refine (keep_any sv h.fv gf lf W).mono ?_
  rintro e W' ⟨rfl, rfl⟩
  obtain ⟨M, Q, h1, h2, h3⟩ := h
  have hg := keep_gives (W.heap.size + 1) W.heap.size sv gf lf xs p M _ Q h1 hf (fun x => by have := h2 _ x; omega) (fun x => by have := h2 _ x; omega)
  refine ⟨_, _, rfl, ⟨_, _, .inl hg, ?_, Cell.new2 W _ _ _, (Cell.new W _ _).alloc _, h1.loc 0 W _ h3 h2 (by simp; omega) (fun b x => (below_alloc2 W _ _).block b (h2 b x))⟩, below_alloc2 W _ _⟩
  rintro b (rfl | rfl | x)
  · simp
  · simp; omega
  · have := h2 b x; simp; omega

/-- Map by a function that reads Mr at most. -/
theorem sq_map (sv : Value) (xs : List Int) (W : World) (h : Sq W sv xs) (gf : Nat) (lf : Array Value) (f : Int → Int) (Mr : Nat → Prop) (Qr : World → Prop)
    (hQr : ∀ W W', Qr W → InW Mr W → W.heap.size ≤ W'.heap.size → (∀ b, Mr b → W'.heap[b]? = W.heap[b]?) → Qr W') (hin : InW Mr W) (hqr : Qr W)
    (hf : ∀ x w, Qr w → CallsV Try.prog (.func (.func gf) #[] lf) (enc1 x) w fun e w' => e = .returned (Value.int .i64 (f x)) ∧ w' = w) :
    Calls Try.prog 14 #[sv, .func (.func gf) #[] lf] W (Makes (xs.map f) W) := by
  refine (map_any sv h.fv gf lf W).mono ?_
  rintro e W' ⟨rfl, rfl⟩
  obtain ⟨M, Q, h1, h2, h3⟩ := h
  have hb := below_alloc2 W (.cells #[sv] 26) (.cells #[.func (.func gf) #[] lf] 32)
  have hg := map_gives (W.heap.size + 1) W.heap.size sv gf lf xs (xs.map f) (by simp) M (fun _ => False) (fun _ => Q) h1 (fun _ => False) (fun _ _ => True) (fun _ _ _ _ _ _ _ => trivial) Mr Qr hQr
    (fun k hk w _ _ hq => (hf xs[k] w hq).mono (by rintro e w' ⟨rfl, rfl⟩; exact ⟨by simp [hk], .refl _ _, trivial⟩)) (fun _ x => x.elim) (fun _ _ => ⟨fun x => x, fun x => x⟩)
    (fun x => by have := h2 _ x; omega) (fun x => by have := h2 _ x; omega)
  have e : (fun b : Nat => False ∨ False) = fun _ => False := by funext b; simp
  rw [e] at hg
  refine ⟨_, _, rfl, ⟨_, _, .inl hg, ?_, Cell.new2 W _ _ _, (Cell.new W _ _).alloc _, h1.loc 0 W _ h3 h2 hb.size (fun b x => hb.block b (h2 b x)), trivial, hQr W _ hqr hin hb.size (fun b x => hb.block b (hin b x))⟩, hb⟩
  rintro b (rfl | rfl | x | x | x)
  · simp
  · simp; omega
  · have := h2 b x; simp; omega
  · exact x.elim
  · have := hin b x; simp; omega

/-- List, of such an iterator. -/
theorem sq_list (sv : Value) (xs : List Int) (hlen : xs.length ≤ 1000000) (W : World) (h : Sq W sv xs) :
    Calls Try.prog 13 #[sv] W fun e W' => ∃ v, e = .returned v ∧ Row W' W.heap.size v xs ∧ Below W.heap.size W W' := by
  obtain ⟨M, Q, h1, h2, h3⟩ := h
  refine (list_any sv xs M _ _ h1 hlen W h2 h3).mono ?_
  rintro e W' ⟨v, rfl, a1, a2, _⟩
  exact ⟨v, rfl, a1, a2.below (Nat.le_refl _) (fun _ _ x => x)⟩

theorem sq_fold (sv : Value) (xs : List Int) (W : World) (h : Sq W sv xs) (u : Int) (gf : Nat) (lf : Array Value) (f : Int → Int → Int)
    (hf : ∀ a x w, CallsV Try.prog (.func (.func gf) #[] lf) #[(Value.int .i64 (a)), (Value.int .i64 (x))] w fun e w' => e = .returned (Value.int .i64 (f a x)) ∧ w' = w) :
    Calls Try.prog 20 #[sv, (Value.int .i64 (u)), .func (.func gf) #[] lf] W fun e W' => e = .returned (Value.int .i64 (xs.foldl f u)) ∧ Below W.heap.size W W' := by
  obtain ⟨M, Q, h1, h2, h3⟩ := h
  refine (fold_any sv xs M _ _ h1 u gf lf f hf W h2 h3).mono ?_
  rintro e W' ⟨rfl, a2, _⟩
  exact ⟨rfl, a2.below (Nat.le_refl _) (fun _ _ x => x)⟩

/-- The row's ints. -/
theorem Row.ints {W : World} {base : Nat} {v : Value} {xs : List Int} (h : Row W base v xs) : Ints W v xs (fun b => v.ownBlock = some b) := by
  have hc := fun g hg => World.ownsRow.cells h (g := g) hg
  obtain ⟨h1, h2⟩ := h
  rcases h2 with ⟨rfl, h2⟩ | ⟨g, cap, cur, rfl, hg, hh, r⟩
  · exact .inl ⟨rfl, List.length_eq_zero_iff.1 h2⟩
  · refine .inr ⟨g, 0, cap, rfl, rfl, fun j hj => ?_⟩
    have := hc g rfl j (Value.int .i64 (xs[j])) (by simp [hj])
    rw [show xs[j]?.getD 0 = xs[j] by simp [hj]]
    by_cases hj0 : j = 0
    · subst hj0; simpa [Addr.add] using this
    · simpa [Addr.add, hj0] using this
theorem Row.lt' {W : World} {base : Nat} {v : Value} {xs : List Int} (h : Row W base v xs) : ∀ b, v.ownBlock = some b → b < W.heap.size := fun b x => (h.lt b x).2
theorem Ints.later {W W' : World} {v : Value} {xs : List Int} {B : Nat → Prop} (h : Ints W v xs B) (hB : ∀ b, B b → b < W.heap.size) (hb : Below W.heap.size W W') : Ints W' v xs B :=
  h.of (fun b x => hb.block b (hB b x))
end Go.Proofs.Ytjlnfeableleeaa
