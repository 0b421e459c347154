import Derived.Test.YtglfmbpcapendaaK
import Derived.WalkKit
import Derived.Below
import Derived.ProofKit
import Derived.Deep.QuietTactic
import Derived.BigQuiet
import Derived.StillTailTactics
import Derived.Deep.Cut
import Derived.IntWalk
import Derived.Deep.RegionHeld3
import Derived.Lib.Hide
namespace Go.Proofs.Ytglfmbpcapendaa.S
open Go Go.RowKit Go.Proofs Go.Proofs.Ytglfmbpcapendaa
variable {M : Nat}

/-- A tree in memory: its nodes lie from B on. -/
def Tr (W : World) (B : Nat) : T (K M) Int → Option Addr → Prop
  | .nil, p => p = none
  | .nd k v l r, p => ∃ (b : Nat) (lp rp : Option Addr), p = some ⟨b, 0, none⟩ ∧ B ≤ b ∧ W.heap[b]? = some (.cells #[(Value.string (k).1), (Value.int .i64 (v)), (Value.int .i64 (((l.size + 1 + r.size : Nat) : Int))), .pointer lp, .pointer rp] 66) ∧ Tr W B l lp ∧ Tr W B r rp
theorem lt_of_heap {W : World} {b : Nat} {o : Obj} (h : W.heap[b]? = some o) : b < W.heap.size := (Array.getElem?_eq_some_iff.1 h).1
theorem Tr.of {W W' : World} {B : Nat} (hb : ∀ b, B ≤ b → b < W.heap.size → W'.heap[b]? = W.heap[b]?) : ∀ {t : T (K M) Int} {p : Option Addr}, Tr W B t p → Tr W' B t p
  | .nil, _, h => h
  | .nd _ _ _ _, _, ⟨b, lp, rp, h1, h2, h3, h4, h5⟩ => ⟨b, lp, rp, h1, h2, (hb b h2 (lt_of_heap h3)).trans h3, Tr.of hb h4, Tr.of hb h5⟩
theorem Tr.later {W W' : World} {B : Nat} {t : T (K M) Int} {p : Option Addr} (h : Tr W B t p) (hb : Below W.heap.size W W') : Tr W' B t p := Tr.of (fun b _ h => hb.block b h) h
theorem Tr.drewN {W : World} {B : Nat} {t : T (K M) Int} {p : Option Addr} (h : Tr W B t p) (q : Nat) : Tr (W.drewN q) B t p := Tr.of (W := W) (W' := W.drewN q) (fun _ _ _ => rfl) h
theorem Tr.drew {W : World} {B : Nat} {t : T (K M) Int} {p : Option Addr} (h : Tr W B t p) : Tr W.drew B t p := Tr.of (W := W) (W' := W.drew) (fun _ _ _ => rfl) h
theorem Tr.nilp {W : World} {B : Nat} {t : T (K M) Int} (h : Tr W B t none) : t = .nil := by
  cases t with
  | nil => rfl
  | nd k v l r => obtain ⟨b, lv, rv, h, _⟩ := h; cases h
theorem nd_cell {W : World} {b : Nat} {cs : Array Value} {t : TypeId} (h : W.heap[b]? = some (.cells cs t)) (i : Nat) : W.cell? ⟨b, i, none⟩ = cs[i]? := by simp [World.cell?, h]
/-- What a node's cells tell. -/
structure Nd (W : World) (b : Nat) (k : K M) (v : Int) (n : Int) (lp rp : Option Addr) : Prop where
  c0 : W.cell? ⟨b, 0, none⟩ = some (Value.string (k).1)
  c1 : W.cell? ⟨b, 1, none⟩ = some (Value.int .i64 (v))
  c2 : W.cell? ⟨b, 2, none⟩ = some (Value.int .i64 (n))
  c3 : W.cell? ⟨b, 3, none⟩ = some (.pointer lp)
  c4 : W.cell? ⟨b, 4, none⟩ = some (.pointer rp)
theorem nd_of {W : World} {b : Nat} {k : K M} {v : Int} {n : Int} {lp rp : Option Addr} {t : TypeId} (h : W.heap[b]? = some (.cells #[(Value.string (k).1), (Value.int .i64 (v)), (Value.int .i64 (n)), .pointer lp, .pointer rp] t)) : Nd W b k v n lp rp :=
  ⟨nd_cell h 0, nd_cell h 1, nd_cell h 2, nd_cell h 3, nd_cell h 4⟩
theorem Nd.lt {W : World} {b : Nat} {k : K M} {v : Int} {n : Int} {lp rp : Option Addr} (h : Nd W b k v n lp rp) : b < W.heap.size := World.block_lt_of_cell? W ⟨b, 0, none⟩ h.c0
theorem Nd.of {W W' : World} {b : Nat} {k : K M} {v : Int} {n : Int} {lp rp : Option Addr} (h : Nd W b k v n lp rp) (hb : W'.heap[b]? = W.heap[b]?) : Nd W' b k v n lp rp :=
  ⟨(World.cell?_of_block (w := W) hb).trans h.c0, (World.cell?_of_block (w := W) hb).trans h.c1, (World.cell?_of_block (w := W) hb).trans h.c2, (World.cell?_of_block (w := W) hb).trans h.c3, (World.cell?_of_block (w := W) hb).trans h.c4⟩
theorem Nd.later {W W' : World} {b : Nat} {k : K M} {v : Int} {n : Int} {lp rp : Option Addr} (h : Nd W b k v n lp rp) (hb : Below W.heap.size W W') : Nd W' b k v n lp rp := h.of (hb.block b h.lt)
theorem below_on {W A B : World} (h : Below W.heap.size W A) (k : Below A.heap.size A B) : Below W.heap.size W B := h.trans (k.mono h.size)
theorem below_alloc (W : World) (o : Obj) : Below W.heap.size W (W.alloc o) := (Below.refl _ W).alloc (Nat.le_refl _) o
theorem below_drewN (W : World) (q : Nat) : Below W.heap.size W (W.drewN q) := ⟨rfl, rfl, rfl, Nat.le_refl _, fun _ _ => rfl⟩

theorem count_any (t : T (K M) Int) (p : Option Addr) (B : Nat) (W : World) (h : Tr W B t p) : Calls Try.prog 35 #[.pointer p] W fun e w' => e = .returned (Value.int .i64 ((t.size : Int))) ∧ w' = W := by
  cases t with
  | nil =>
    obtain rfl : p = none := h
    go_enter Try.func35, Try.ntmps35
    go_wp2
    go_ret
    exact ⟨rfl, rfl⟩
  | nd k v l r =>
    obtain ⟨b, lv, rv, rfl, _, hh, _, _⟩ := h
    have hc := (nd_of hh).c2
    show Calls Try.prog 35 _ W fun e w' => e = .returned (Value.int .i64 (((l.size + 1 + r.size : Nat) : Int))) ∧ w' = W
    generalize l.size + 1 + r.size = n at hc
    go_enter Try.func35, Try.ntmps35
    go_wp2
    go_ret
    exact ⟨rfl, rfl⟩
theorem weight_any (t : T (K M) Int) (p : Option Addr) (B : Nat) (hs : t.size ≤ 1000000) (W : World) (h : Tr W B t p) : Calls Try.prog 47 #[.pointer p] W fun e w' => e = .returned (Value.int .i64 (((t.size + 1 : Nat) : Int))) ∧ w' = W := by
  have hc := count_any t p B W h
  generalize t.size = n at hs hc
  go_enter Try.func47, Try.ntmps47
  go_wp2_with (go_at_call 35; refine hc.mono ?_; rintro e w1 ⟨rfl, rfl⟩)
  go_ret
  exact ⟨by simp, rfl⟩

/-- Behind the call there is the tree t. -/
def Makes (W : World) (B : Nat) (t : T (K M) Int) (e : Ending) (W' : World) : Prop := ∃ p, e = .returned (.pointer p) ∧ Tr W' B t p ∧ Below W.heap.size W W'
theorem tr_new (W : World) (B : Nat) (hB : B ≤ W.heap.size) (k : K M) (v : Int) (l r : T (K M) Int) (n : Int) (hn : n = ((l.size + 1 + r.size : Nat) : Int)) (lp rp : Option Addr) (h1 : Tr W B l lp) (h2 : Tr W B r rp) :
    Tr (W.alloc (.cells #[(Value.string (k).1), (Value.int .i64 (v)), (Value.int .i64 (n)), .pointer lp, .pointer rp] 66)) B (.nd k v l r) (some ⟨W.heap.size, 0, none⟩) :=
  ⟨W.heap.size, lp, rp, rfl, hB, by rw [hn]; exact heap_alloc_new W _, h1.later (below_alloc W _), h2.later (below_alloc W _)⟩
set_option maxHeartbeats 1000000 in
theorem beside_any (b : Nat) (k : K M) (v : Int) (n : Int) (xl xr : Option Addr) (l r : T (K M) Int) (pl pr : Option Addr) (B : Nat) (hl : l.size ≤ 1000000) (hr : r.size ≤ 1000000) (W : World) (hB : B ≤ W.heap.size) (hb : Nd W b k v n xl xr)
    (h1 : Tr W B l pl) (h2 : Tr W B r pr) : Calls Try.prog 50 #[(Value.pointer (some ⟨b, 0, none⟩)), .pointer pl, .pointer pr] W (Makes W B (.nd k v l r)) := by
  have c1 := count_any l pl B W.drew h1.drew
  have c2 := count_any r pr B W.drew h2.drew
  have HB := Lib.hid (And.intro hB (And.intro h1 h2))
  have ck : ∀ o, (W.alloc o).cell? ⟨b, 0, none⟩ = some (Value.string (k).1) ∧ (W.alloc o).cell? ⟨b, 1, none⟩ = some (Value.int .i64 (v)) := fun o => ⟨(hb.later (below_alloc W o)).c0, (hb.later (below_alloc W o)).c1⟩
  obtain ⟨c0', c1', _, _, _⟩ := hb
  obtain ⟨nl, hnl⟩ : ∃ nl, l.size = nl := ⟨_, rfl⟩
  obtain ⟨nr, hnr⟩ : ∃ nr, r.size = nr := ⟨_, rfl⟩
  rw [hnl] at c1 hl
  rw [hnr] at c2 hr
  have HN := Lib.hid (And.intro hnl hnr)
  clear hnl hnr hB h1 h2
  go_enter Try.func50, Try.ntmps50
  go_wp2_with fail
  go_region_held3 (fun w => w.cell? ⟨b, 0, none⟩ = some (Value.string (k).1) ∧ w.cell? ⟨b, 1, none⟩ = some (Value.int .i64 (v))) (first | exact ⟨c0', c1'⟩ | exact ck _) (first
    | (go_at_call 35; (with_reducible refine c1.mono ?_); rintro e w1 ⟨rfl, rfl⟩)
    | (go_at_call 35; (with_reducible refine c2.mono ?_); rintro e w1 ⟨rfl, rfl⟩))
  go_wp2_with fail
  go_ret
  exact ⟨_, rfl, (tr_new W B HB.out.1 k v l r _ (by rw [Go.IntWalk.i64_left, Go.IntWalk.i64_left, Go.IntWalk.wrap64_in ((nl : Int) + 1) (by omega), Go.IntWalk.wrap64_in ((nl : Int) + 1 + nr) (by omega), HN.out.1, HN.out.2]; omega) pl pr HB.out.2.1 HB.out.2.2).drew, (below_alloc W _).drew⟩
end Go.Proofs.Ytglfmbpcapendaa.S
