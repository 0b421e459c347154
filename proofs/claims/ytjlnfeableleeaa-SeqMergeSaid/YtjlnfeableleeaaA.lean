import Derived.Test.YtjlnfeableleeaaProg
import Derived.Test.YtjlnfeableleeaaSep
import Derived.Shelf.Abstract
import Derived.Shelf.RegionOpen
import Derived.WalkKit
import Derived.TacticsInMore
import Derived.LoopNIn
import Derived.LoopIn
import Derived.Lib.Hide
namespace Go.Proofs.Ytjlnfeableleeaa
open Go Go.RowKit Go.Shelf Go.Proofs
attribute [local go_sem] Oper.semAt_some

section
variable {P : Program} {w : World}
theorem run_eqIn_nn (d : Nat) (t : TypeId) (ps rs : Array TypeId) (v : Bool) (h : P.underlying t = some (.func ps rs v)) : (Op.equalIn (d + 1) t .nilFunc .nilFunc).run P w = .ok true w := by
  simp [Op.equalIn, run_underlying h]
theorem run_eqIn_fn (d : Nat) (t : TypeId) (ps rs : Array TypeId) (v : Bool) (f : Fn) (a b : Array Value) (h : P.underlying t = some (.func ps rs v)) : (Op.equalIn (d + 1) t (.func f a b) .nilFunc).run P w = .ok false w := by
  simp [Op.equalIn, run_underlying h]
theorem run_eq_nn (t : TypeId) (ps rs : Array TypeId) (v : Bool) (h : P.underlying t = some (.func ps rs v)) : (Op.equal t .nilFunc .nilFunc).run P w = .ok true w := run_eqIn_nn 9999 t ps rs v h
theorem run_eq_fn (t : TypeId) (ps rs : Array TypeId) (v : Bool) (f : Fn) (a b : Array Value) (h : P.underlying t = some (.func ps rs v)) : (Op.equal t (.func f a b) .nilFunc).run P w = .ok false w := run_eqIn_fn 9999 t ps rs v f a b h
theorem run_eql_nn (t : TypeId) (ps rs : Array TypeId) (v : Bool) (h : P.underlying t = some (.func ps rs v)) : (binOp .eql t .nilFunc .nilFunc).run P w = .ok (.bool true) w := by
  simp only [binOp]
  simp [run_eq_nn t ps rs v h]
theorem run_eql_fn (t : TypeId) (ps rs : Array TypeId) (v : Bool) (f : Fn) (a b : Array Value) (h : P.underlying t = some (.func ps rs v)) : (binOp .eql t (.func f a b) .nilFunc).run P w = .ok (.bool false) w := by
  simp only [binOp]
  simp [run_eq_fn t ps rs v f a b h]
theorem eql26n : (binOp .eql 26 .nilFunc .nilFunc).run Try.prog w = .ok (.bool true) w := run_eql_nn _ _ _ _ Try.underlying26
theorem eql26f (f : Fn) (a b : Array Value) : (binOp .eql 26 (.func f a b) .nilFunc).run Try.prog w = .ok (.bool false) w := run_eql_fn _ _ _ _ _ _ _ Try.underlying26
theorem eql32f (f : Fn) (a b : Array Value) : (binOp .eql 32 (.func f a b) .nilFunc).run Try.prog w = .ok (.bool false) w := run_eql_fn _ _ _ _ _ _ _ Try.underlying32
theorem eql34f (f : Fn) (a b : Array Value) : (binOp .eql 34 (.func f a b) .nilFunc).run Try.prog w = .ok (.bool false) w := run_eql_fn _ _ _ _ _ _ _ Try.underlying34
theorem eql37f (f : Fn) (a b : Array Value) : (binOp .eql 37 (.func f a b) .nilFunc).run Try.prog w = .ok (.bool false) w := run_eql_fn _ _ _ _ _ _ _ Try.underlying37
theorem eql42n : (binOp .eql 42 .nilFunc .nilFunc).run Try.prog w = .ok (.bool true) w := run_eql_nn _ _ _ _ Try.underlying42
theorem eql42f (f : Fn) (a b : Array Value) : (binOp .eql 42 (.func f a b) .nilFunc).run Try.prog w = .ok (.bool false) w := run_eql_fn _ _ _ _ _ _ _ Try.underlying42
end
attribute [local go_sem] eql26n eql26f eql32f eql34f eql37f eql42n eql42f

set_option maxHeartbeats 1000000 in
/-- tame's inner closure: the round asks yield and keeps its answer. -/
theorem f50_any (x : Int) (b1 b2 : Nat) (yv : Value) (W : World) (h1 : Cell W b1 (.bool true)) (h2 : Cell W b2 yv) (R : Ending → World → Prop)
    (h : CallsV Try.prog yv #[(Value.int .i64 (x))] W fun e W2 => (∃ b, e = .returned (.bool b)) ∧ Cell W2 b1 (.bool true) ∧ R e W2) :
    Calls Try.prog 50 #[(Value.int .i64 (x)), (Value.pointer (some ⟨b1, 0, none⟩)), (Value.pointer (some ⟨b2, 0, none⟩))] W fun e W' => ∃ b W2, e = .returned (.bool b) ∧ R (.returned (.bool b)) W2 ∧ W' = W2.setCell ⟨b1, 0, none⟩ (.bool b) := by
  obtain ⟨c1, g1⟩ := h1
  obtain ⟨c2, g2⟩ := h2
  refine (callsIn_wide (n := 0)).1 ?_
  refine callsIn_of_wp Try.func50 rfl trivial ?_ rfl
  simp only [Try.ntmps50, List.size_toArray, List.length_cons, List.length_nil, Nat.reduceAdd, Nat.reduceSub, Array.replicate_succ, Array.replicate_zero, List.push_toArray, List.append_toArray, List.nil_append, List.cons_append]
  gi_wp2_with ((with_reducible refine wpListIn_callV ?_ ?_ yv [(Value.int .i64 (x))] ?_ ?_ ?_); rfl; rfl; rfl; rfl; refine h.mono ?_; rintro e W2 ⟨⟨b, rfl⟩, ⟨c3, g3⟩, hR⟩; refine ⟨_, rfl, ?_⟩)
  exact bodyPost_ret (results_tmp rfl _ _ _) rfl ⟨b, W2, rfl, hR, rfl⟩

/-- The slice value s holds the ints xs, in a block of B. -/
def Ints (W : World) (s : Value) (xs : List Int) (B : Nat → Prop) : Prop :=
  (s = .slice none 0 0 ∧ xs = []) ∨ ∃ b off cap, s = .slice (some ⟨b, off, none⟩) xs.length cap ∧ B b ∧ ∀ j, j < xs.length → W.cell? ⟨b, off + j, none⟩ = some (Value.int .i64 (xs[j]?.getD 0))
theorem Ints.of {W W' : World} {s : Value} {xs : List Int} {B : Nat → Prop} (h : Ints W s xs B) (hb : ∀ b, B b → W'.heap[b]? = W.heap[b]?) : Ints W' s xs B := by
  rcases h with h | ⟨b, off, cap, h1, h2, h3⟩
  · exact .inl h
  · exact .inr ⟨b, off, cap, h1, h2, fun j hj => (World.cell?_of_block (w := W) (hb b h2)).trans (h3 j hj)⟩
def enc1 (x : Int) : Array Value := #[(Value.int .i64 (x))]

/-- What an iterator's loop hands on: k have come. -/
structure Came (J : Nat → (Nat → Prop) → World → Prop) (S : Nat → Prop) (W : World) (k : Nat) (S1 : Nat → Prop) (W1 : World) : Prop where
  j : J k S1 W1
  inW : InW S1 W1
  grows : Grows S S1 W
  chg : Chg S W W1

theorem Came.next {J : Nat → (Nat → Prop) → World → Prop} {S S1 S2 : Nat → Prop} {W W1 W2 : World} {k : Nat} (h : Came J S W k S1 W1) {J' : Nat → (Nat → Prop) → World → Prop} {k' : Nat}
    (hg : Grows S1 S2 W1) (hi : InW S2 W2) (hc : Chg S1 W1 W2) (hj : J' k' S2 W2) : Came J' S W k' S2 W2 :=
  ⟨hj, hi, h.grows.trans hg h.chg.size, h.chg.trans hc (fun _ _ x => x) (fun b hb x => (h.grows b x).resolve_right (by omega))⟩

set_option maxRecDepth 100000 in
set_option maxHeartbeats 1000000 in
theorem f35_some (c b off cap : Nat) (xs : List Int) (hlen : xs.length ≤ 1000000) (yv : Value) (J Jx : Nat → (Nat → Prop) → World → Prop) (S : Nat → Prop) (W : World)
    (hS : InW S W) (hbS : ¬ S b) (hbl : b < W.heap.size) (hc : W.cell? ⟨c, 0, none⟩ = some (.slice (some ⟨b, off, none⟩) xs.length cap))
    (hx : ∀ j, j < xs.length → W.cell? ⟨b, off + j, none⟩ = some (Value.int .i64 (xs[j]?.getD 0))) (h0 : J 0 S W)
    (hY : ∀ k (hk : k < xs.length) S1 W1, InW S1 W1 → Chg (fun b => S b ∨ False) W W1 → J k S1 W1 →
      CallsV Try.prog yv (enc1 xs[k]) W1 fun e W2 => ∃ S2, Grows S1 S2 W1 ∧ InW S2 W2 ∧ Chg S1 W1 W2 ∧
        ((e = .returned (.bool true) ∧ J (k + 1) S2 W2) ∨ (e = .returned (.bool false) ∧ Jx (k + 1) S2 W2))) :
    Calls Try.prog 35 #[yv, (Value.pointer (some ⟨c, 0, none⟩))] W fun e W' => ∃ v, e = .returned v ∧ ((∃ S', Came J S W xs.length S' W') ∨ ∃ k S', 0 < k ∧ k ≤ xs.length ∧ Came Jx S W k S' W') := by
  refine (callsIn_wide (n := 0)).1 ?_
  refine callsIn_of_wp Try.func35 rfl trivial ?_ rfl
  simp only [Try.ntmps35, List.size_toArray, List.length_cons, List.length_nil, Nat.reduceAdd, Nat.reduceSub, Array.replicate_succ, Array.replicate_zero, List.push_toArray, List.append_toArray, List.nil_append, List.cons_append]
  gi_wp2
  gi_loopw [7] (fun i wr => ∃ k S1, k ≤ xs.length ∧ i = .int .i64 (k : Int) ∧ Came J S W k S1 wr) (fun i _ => xs.length - (intOf i).toNat)
  case atStart => exact ⟨0, S, Nat.zero_le _, rfl, ⟨h0, hS, .refl _ _, .refl _ _⟩⟩
  case round =>
    obtain ⟨k, S1, hk, rfl, hC⟩ := hrel
    by_cases hlt : k < xs.length
    · have hcx : wr.cell? ⟨b, off + k, none⟩ = some (Value.int .i64 (xs[k]?.getD 0)) := (hC.chg.cell (p := ⟨b, off + k, none⟩) hbl hbS).trans (hx k hlt)
      have hY1 := hY k hlt S1 wr hC.inW (hC.chg.mono fun _ _ x => .inl x) hC.j
      have hk0 : xs[k]?.getD 0 = xs[k] := by simp [hlt]
      rw [hk0] at hcx
      clear hx hY hk0
      gi_wp2_with ((with_reducible refine wpListIn_callV ?_ ?_ yv [(Value.int .i64 (xs[k]))] ?_ ?_ ?_); rfl; rfl; rfl; rfl; refine hY1.mono ?_; clear hY1; rintro e W2 ⟨S2, hg, hi, hch, (⟨rfl, hj⟩ | ⟨rfl, hj⟩)⟩ <;> refine ⟨_, rfl, ?_⟩)
      · go_roundw
        case rel => exact ⟨k + 1, S2, by omega, by simp, hC.next hg hi hch hj⟩
        case measure => simp [intOf]; omega
      · refine bodyPost_ret (results_none rfl _ _ _) rfl ?_
        exact ⟨_, rfl, .inr ⟨k + 1, S2, by omega, by omega, hC.next hg hi hch hj⟩⟩
    · obtain rfl : k = xs.length := by omega
      clear hx hY
      gi_wp2
      go_end0
      exact ⟨_, rfl, .inl ⟨S1, hC⟩⟩

set_option maxRecDepth 100000 in
set_option maxHeartbeats 1000000 in
theorem f35_nil (c : Nat) (yv : Value) (W : World) (hc : W.cell? ⟨c, 0, none⟩ = some (.slice none 0 0)) :
    Calls Try.prog 35 #[yv, (Value.pointer (some ⟨c, 0, none⟩))] W fun e W' => (∃ v, e = .returned v) ∧ W' = W := by
  refine (callsIn_wide (n := 0)).1 ?_
  refine callsIn_of_wp Try.func35 rfl trivial ?_ rfl
  simp only [Try.ntmps35, List.size_toArray, List.length_cons, List.length_nil, Nat.reduceAdd, Nat.reduceSub, Array.replicate_succ, Array.replicate_zero, List.push_toArray, List.append_toArray, List.nil_append, List.cons_append]
  gi_wp2
  gi_loopw [7] (fun i wr => i = .int .i64 0 ∧ wr = W) (fun _ _ => 0)
  case atStart => exact ⟨rfl, rfl⟩
  case round =>
    obtain ⟨rfl, rfl⟩ := hrel
    gi_wp2
    go_end0
    exact ⟨⟨_, rfl⟩, rfl⟩

/-- **Of: the closure over a variable that holds a slice gives its ints.** -/
theorem of_gives (c : Nat) (s : Value) (xs : List Int) (B : Nat → Prop) (hlen : xs.length ≤ 1000000) :
    Gives Try.prog (.func (.func 35) #[] #[(Value.pointer (some ⟨c, 0, none⟩))]) enc1 xs (fun b => b = c ∨ B b) (fun _ => False) (fun _ W => Cell W c s ∧ Ints W s xs B) := by
  refine ⟨fun k W W' ⟨h1, h2⟩ _ _ hb => ⟨h1.of (hb c (.inl rfl)), h2.of (fun b h => hb b (.inr h))⟩, ⟨35, _, rfl⟩, fun _ x => x.elim, ?_⟩
  rintro yf yb J Jx S W _ _ hS hM hSM ⟨hc, hx⟩ h0 hY
  refine .inl ⟨35, _, rfl, enters_of Try.func35 (by kernel_rfl) rfl, ?_⟩
  have hq : ∀ W', Chg S W W' → Cell W' c s ∧ Ints W' s xs B := fun W' h =>
    ⟨hc.of (h.block c (hM c (.inl rfl)) (fun x => hSM c x (.inl rfl))), hx.of (fun b hb => h.block b (hM b (.inr hb)) (fun x => hSM b x (.inr hb)))⟩
  rcases hx with ⟨rfl, rfl⟩ | ⟨b, off, cap, rfl, hb, hx⟩
  · refine (f35_nil c _ W hc.1).mono ?_
    rintro e W' ⟨⟨v, rfl⟩, rfl⟩
    exact ⟨v, S, rfl, .refl _ _, hS, .refl _ _, .inl ⟨h0, hq _ (.refl _ _)⟩⟩
  · refine (f35_some c b off cap xs hlen _ J Jx S W hS (fun x => hSM b x (.inr hb)) (hM b (.inr hb)) hc.1 hx h0 hY).mono ?_
    rintro e W' ⟨v, rfl, (⟨S', h⟩ | ⟨k, S', hk0, hk, h⟩)⟩
    · exact ⟨v, S', rfl, h.grows, h.inW, h.chg.mono (fun _ _ x => .inl x), .inl ⟨h.j, hq _ h.chg⟩⟩
    · exact ⟨v, S', rfl, h.grows, h.inW, h.chg.mono (fun _ _ x => .inl x), .inr ⟨k, hk0, hk, h.j, hq _ h.chg⟩⟩

/-- An iterator that may be nil. -/
def GivesO (sv : Value) (xs : List Int) (M Mm : Nat → Prop) (Q : Nat → World → Prop) : Prop :=
  Gives Try.prog sv enc1 xs M Mm Q ∨ (sv = .nilFunc ∧ xs = [] ∧ Q = (fun _ _ => True) ∧ (∀ b, Mm b → M b))
theorem GivesO.loc {sv : Value} {xs : List Int} {M Mm : Nat → Prop} {Q : Nat → World → Prop} (h : GivesO sv xs M Mm Q) : ∀ k W W', Q k W → InW M W → W.heap.size ≤ W'.heap.size → (∀ b, M b → W'.heap[b]? = W.heap[b]?) → Q k W' := by
  rcases h with h | ⟨_, _, rfl, _⟩
  · exact h.1
  · exact fun _ _ _ _ _ _ _ => trivial
theorem GivesO.sub {sv : Value} {xs : List Int} {M Mm : Nat → Prop} {Q : Nat → World → Prop} (h : GivesO sv xs M Mm Q) : ∀ b, Mm b → M b := by
  rcases h with h | ⟨_, _, _, h⟩
  · exact h.2.2.1
  · exact h

set_option maxHeartbeats 1000000 in
theorem f49_nil (c : Nat) (yf : Fn) (yb : Array Value) (W : World) (hc : W.cell? ⟨c, 0, none⟩ = some .nilFunc) :
    Calls Try.prog 49 #[.func yf #[] yb, (Value.pointer (some ⟨c, 0, none⟩))] W fun e W' => (∃ v, e = .returned v) ∧ W' = W.alloc (.cells #[.func yf #[] yb] 34) := by
  have hcl : c < W.heap.size := World.block_lt_of_cell? W ⟨c, 0, none⟩ hc
  refine (callsIn_wide (n := 0)).1 ?_
  refine callsIn_of_wp Try.func49 rfl trivial ?_ rfl
  simp only [Try.ntmps49, List.size_toArray, List.length_cons, List.length_nil, Nat.reduceAdd, Nat.reduceSub, Array.replicate_succ, Array.replicate_zero, List.push_toArray, List.append_toArray, List.nil_append, List.cons_append]
  gi_wp2
  exact bodyPost_ret (results_none rfl _ _ _) rfl ⟨⟨_, rfl⟩, rfl⟩

set_option maxHeartbeats 1000000 in
/-- tame's closure asks its iterator with a yield of its own. -/
theorem f49_some (c : Nat) (yf : Fn) (yb : Array Value) (g : Nat) (lb : Array Value) (W : World) (hc : W.cell? ⟨c, 0, none⟩ = some (.func (.func g) #[] lb)) (R : World → Prop)
    (h : ∀ w1, w1.heap.size = W.heap.size + 2 → Chg (fun _ => False) W w1 → Cell w1 (W.heap.size + 1) (.bool true) → Cell w1 W.heap.size (.func yf #[] yb) →
      CallsV Try.prog (.func (.func g) #[] lb) #[.func (.func 50) #[] #[(Value.pointer (some ⟨W.heap.size + 1, 0, none⟩)), (Value.pointer (some ⟨W.heap.size, 0, none⟩))]] w1 fun e w2 => ∃ v, e = .returned v ∧ R w2) :
    Calls Try.prog 49 #[.func yf #[] yb, (Value.pointer (some ⟨c, 0, none⟩))] W fun e w2 => ∃ v, e = .returned v ∧ R w2 := by
  have hcl : c < W.heap.size := World.block_lt_of_cell? W ⟨c, 0, none⟩ hc
  refine (callsIn_wide (n := 0)).1 ?_
  refine callsIn_of_wp Try.func49 rfl trivial ?_ rfl
  simp only [Try.ntmps49, List.size_toArray, List.length_cons, List.length_nil, Nat.reduceAdd, Nat.reduceSub, Array.replicate_succ, Array.replicate_zero, List.push_toArray, List.append_toArray, List.nil_append, List.cons_append]
  gi_wp2_with ((with_reducible refine wpListIn_callV ?_ ?_ (.func (.func g) #[] lb) [.func (.func 50) #[] #[(Value.pointer (some ⟨W.heap.size + 1, 0, none⟩)), (Value.pointer (some ⟨W.heap.size, 0, none⟩))]] ?_ ?_ ?_); rfl; rfl; rfl; rfl; refine (h _ (by simp) (((Chg.refl _ W).alloc _).alloc _) (Cell.new2 W _ _ _) ((Cell.new W _ _).alloc _)).mono ?_; rintro e w2 ⟨v, rfl, hR⟩; refine ⟨_, rfl, ?_⟩)
  go_end0
  exact ⟨_, rfl, hR⟩

/-- **tame's closure gives what its iterator gives.** -/
theorem tame_gives (c : Nat) (sv : Value) (xs : List Int) (M Mm : Nat → Prop) (Q : Nat → World → Prop) (h : GivesO sv xs M Mm Q) (hcM : ¬ M c) :
    Gives Try.prog (.func (.func 49) #[] #[(Value.pointer (some ⟨c, 0, none⟩))]) enc1 xs (fun b => b = c ∨ M b) Mm (fun k W => Cell W c sv ∧ Q k W) := by
  have hsub := h.sub
  refine ⟨fun k W W' ⟨h1, h2⟩ hM hsz hb => ⟨h1.of (hb c (.inl rfl)), h.loc k W W' h2 (fun b x => hM b (.inr x)) hsz (fun b x => hb b (.inr x))⟩, ⟨49, _, rfl⟩, fun b x => .inr (hsub b x), ?_⟩
  rintro yf yb J Jx S W hJ hJx hS hM hSM ⟨hc, hq⟩ h0 hY
  refine .inl ⟨49, _, rfl, enters_of Try.func49 (by kernel_rfl) rfl, ?_⟩
  rcases h with h | ⟨rfl, rfl, rfl, _⟩
  · obtain ⟨g, lb, rfl⟩ := h.2.1
    refine (f49_some c yf yb g lb W hc.1 (fun W' => ∃ S', Grows S S' W ∧ InW S' W' ∧ Chg (fun b => S b ∨ Mm b) W W' ∧
      ((J xs.length S' W' ∧ Cell W' c (.func (.func g) #[] lb) ∧ Q xs.length W') ∨ ∃ k, 0 < k ∧ k ≤ xs.length ∧ Jx k S' W' ∧ Cell W' c (.func (.func g) #[] lb) ∧ Q k W')) ?_).mono (by rintro e w2 ⟨v, rfl, S', h⟩; exact ⟨v, S', rfl, h⟩)
    intro w1 hz hch h1 h2
    obtain ⟨D, hD⟩ : ∃ D, W.heap.size = D := ⟨_, rfl⟩
    rw [hD] at hz h1 h2 ⊢
    have hMD : ∀ b, M b → b < D := fun b x => by rw [← hD]; exact hM b (.inr x)
    have hSD : ∀ b, S b → b < D := fun b x => by rw [← hD]; exact hS b x
    have hcw : ∀ W2, Chg (fun b => (S b ∨ (b = D + 1 ∨ b = D)) ∨ Mm b) w1 W2 → Chg (fun b => S b ∨ Mm b) W W2 := fun W2 hc2 => hch.trans hc2 (fun _ _ x => x.elim) (fun b hb x => by
      rcases x with (x | x) | x
      · exact .inl x
      · omega
      · exact .inr x)
    refine (h.2.2.2 (.func 50) #[(Value.pointer (some ⟨D + 1, 0, none⟩)), (Value.pointer (some ⟨D, 0, none⟩))] (fun k => Plus (fun b => b = D + 1 ∨ b = D) (J k) (fun W => Cell W (D + 1) (.bool true) ∧ Cell W D (.func yf #[] yb))) (fun k => Plus (fun b => b = D + 1 ∨ b = D) (Jx k) (fun _ => True)) (fun b => S b ∨ (b = D + 1 ∨ b = D)) w1
      (fun k => Plus.loc (hJ k) ?_) (fun k => Plus.loc (hJx k) (fun _ _ _ _ _ _ => trivial)) ?_ ?_ ?_ ?_ ?_ ?_).mono ?_
    · rintro A B ⟨a1, a2⟩ _ _ hb
      exact ⟨a1.of (hb _ (by simp)), a2.of (hb _ (by simp))⟩
    · rintro b (x | x)
      · have := hSD b x; omega
      · omega
    · intro b x; have := hMD b x; omega
    · rintro b (x | x) hm
      · exact hSM b x (.inr hm)
      · have := hMD b hm; omega
    · exact h.1 0 W w1 hq (fun b x => hM b (.inr x)) hch.size (fun b x => hch.block b (hM b (.inr x)) (fun x => x))
    · exact ⟨S, fun _ => Iff.rfl, fun b x hs => by have := hSD b hs; omega, hJ 0 S W w1 h0 hS hch.size (fun b x => hch.block b (hS b x) (fun x => x)), h1, h2⟩
    · rintro k hk T W1 hin hchg ⟨T0, hT, hn, hj, c1, c2⟩
      have hsz := hchg.size
      refine .inl ⟨50, _, rfl, enters_of Try.func50 (by kernel_rfl) rfl, ?_⟩
      have hlt : D + 1 < W1.heap.size := c1.lt
      refine (f50_any xs[k] (D + 1) D (.func yf #[] yb) W1 c1 c2 (fun e W2 => ∃ S2, Grows T0 S2 W1 ∧ InW S2 W2 ∧ Chg T0 W1 W2 ∧
        ((e = .returned (.bool true) ∧ J (k + 1) S2 W2) ∨ (e = .returned (.bool false) ∧ Jx (k + 1) S2 W2))) ?_).mono ?_
      · refine (hY k hk T0 W1 (fun b x => hin b ((hT b).2 (.inl x))) (hcw W1 hchg) hj).mono ?_
        rintro e W2 ⟨S2, a1, a2, a3, a4⟩
        refine ⟨?_, c1.of (a3.block _ hlt (hn _ (by simp))), S2, a1, a2, a3, a4⟩
        rcases a4 with ⟨rfl, _⟩ | ⟨rfl, _⟩ <;> exact ⟨_, rfl⟩
      · rintro e W' ⟨b, W2, rfl, ⟨S2, a1, a2, a3, a4⟩, rfl⟩
        obtain ⟨s1, s2, s3, s4, s5⟩ := Plus.step hT hn hin a1 a2 a3
        have hne : ∀ x, S2 x → x ≠ D + 1 := fun x hx e => s4 (D + 1) (by simp) (e ▸ hx)
        have hst : ∀ x, S2 x → (W2.setCell ⟨D + 1, 0, none⟩ (.bool b)).heap[x]? = W2.heap[x]? := fun x hx => Below.heap_setCell _ _ _ _ (hne x hx)
        have hz2 : (W2.setCell ⟨D + 1, 0, none⟩ (.bool b)).heap.size = W2.heap.size := by simp [World.setCell]
        refine ⟨_, s1, fun x hx => by rw [hz2]; exact s2 x hx, s3.setCell (fun _ => (hT _).2 (.inr (by simp))) _, ?_⟩
        rcases a4 with ⟨hb, hj'⟩ | ⟨hb, hj'⟩ <;> cases hb
        · exact .inl ⟨rfl, S2, fun _ => Iff.rfl, s4, hJ _ S2 W2 _ hj' a2 (by omega) hst, (c1.of (s5 _ (by simp))).set _, (c2.of (s5 _ (by simp))).other (by omega) _⟩
        · exact .inr ⟨rfl, S2, fun _ => Iff.rfl, s4, hJx _ S2 W2 _ hj' a2 (by omega) hst, trivial⟩
    · rintro e w2 ⟨v, S', rfl, hg, hi, hc2, hend⟩
      have hcw2 := hcw w2 hc2
      have hcf : Cell w2 c (.func (.func g) #[] lb) := hc.of (hcw2.block c hc.lt (by
        rintro (x | x)
        · exact hSM c x (.inl rfl)
        · exact hcM (hsub c x)))
      rcases hend with ⟨⟨S0, hT, hn, hj, _⟩, hq'⟩ | ⟨k, hk0, hk, ⟨S0, hT, hn, hj, _⟩, hq'⟩
      · exact ⟨v, rfl, S0, Plus.back (by omega) hg hT hn, fun b x => hi b ((hT b).2 (.inl x)), hcw2, .inl ⟨hj, hcf, hq'⟩⟩
      · exact ⟨v, rfl, S0, Plus.back (by omega) hg hT hn, fun b x => hi b ((hT b).2 (.inl x)), hcw2, .inr ⟨k, hk0, hk, hj, hcf, hq'⟩⟩
  · refine (f49_nil c yf yb W hc.1).mono ?_
    rintro e W' ⟨⟨v, rfl⟩, rfl⟩
    exact ⟨v, S, rfl, .refl _ _, hS.later (by simp), (Chg.refl _ _).alloc _, .inl ⟨hJ 0 S W _ h0 hS (by simp) (fun b x => Below.heap_alloc _ _ _ (hS b x)), hc.alloc _, trivial⟩⟩
end Go.Proofs.Ytjlnfeableleeaa
