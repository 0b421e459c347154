/-  -/
import Derived.Test.YtffpmmphpdkkbaaGreatProg
import Derived.Lib.Bytealg
import Derived.WalkKit
import Derived.Below
import Derived.ProofKit
import Derived.Deep.QuietTactic
import Derived.BigQuiet
import Derived.StillTailTactics
import Derived.Deep.Cut
import Derived.IntWalk
import Derived.Deep.RegionHeld3
import Derived.Lib.Hide
namespace Go.Proofs.YtffpmmphpdkkbaaGreat.Co

/-! ### Trees, lists of keys and values, in no memory -/
inductive T (κ β : Type) where
  | nil
  | nd (k : κ) (v : β) (l r : T κ β)
namespace T
variable {κ β : Type}
def size : T κ β → Nat
  | nil => 0
  | nd _ _ l r => l.size + 1 + r.size
def toL : T κ β → List (κ × β)
  | nil => []
  | nd k v l r => l.toL ++ (k, v) :: r.toL
theorem len (t : T κ β) : t.toL.length = t.size := by
  induction t with
  | nil => rfl
  | nd k v l r hl hr => simp only [toL, size, List.length_append, List.length_cons, hl, hr]; omega
theorem toL_nil {t : T κ β} (h : t.toL = []) : t = nil := by
  cases t with
  | nil => rfl
  | nd k v l r => simp [toL] at h
end T

def cmp3 (x y : Int) : Int := if x < y then -1 else if y < x then 1 else 0
theorem cmp3_neg {x y : Int} : cmp3 x y < 0 ↔ x < y := by unfold cmp3; by_cases h1 : x < y <;> by_cases h2 : y < x <;> simp [h1, h2]
theorem cmp3_pos {x y : Int} : 0 < cmp3 x y ↔ y < x := by unfold cmp3; by_cases h1 : x < y <;> by_cases h2 : y < x <;> simp [h1, h2]; omega
theorem cmp3_zero {x y : Int} : cmp3 x y = 0 ↔ x = y := by unfold cmp3; by_cases h1 : x < y <;> by_cases h2 : y < x <;> simp [h1, h2] <;> omega

section
variable {κ β : Type} (key : κ → Int)
def insL (k : κ) (v : β) : List (κ × β) → List (κ × β)
  | [] => [(k, v)]
  | (a, w) :: r => if key k < key a then (k, v) :: (a, w) :: r else if key a < key k then (a, w) :: insL k v r else (a, v) :: r
def delL (k : κ) : List (κ × β) → List (κ × β)
  | [] => []
  | (a, w) :: r => if key a = key k then r else (a, w) :: delL k r
/-- How many stand below k. -/
def below (k : κ) : List (κ × β) → Nat
  | [] => 0
  | (a, _) :: r => if key a < key k then below k r + 1 else 0
def getL (k : κ) : List (κ × β) → Option β
  | [] => none
  | (a, w) :: r => if key a = key k then some w else getL k r
def Srt (l : List (κ × β)) : Prop := l.Pairwise (fun p q => key p.1 < key q.1)
variable {key}

theorem Srt.nil : Srt key ([] : List (κ × β)) := List.Pairwise.nil
theorem Srt.split {L R : List (κ × β)} {a : κ} {w : β} (h : Srt key (L ++ (a, w) :: R)) : Srt key L ∧ Srt key R ∧ (∀ p, p ∈ L → key p.1 < key a) ∧ (∀ p, p ∈ R → key a < key p.1) := by
  unfold Srt at h
  rw [List.pairwise_append, List.pairwise_cons] at h
  exact ⟨h.1, h.2.1.2, fun p hp => h.2.2 p hp (a, w) (by simp), h.2.1.1⟩
theorem insL_gt {k : κ} {v : β} {X : List (κ × β)} : ∀ {L : List (κ × β)}, (∀ p, p ∈ L → key p.1 < key k) → insL key k v (L ++ X) = L ++ insL key k v X
  | [], _ => rfl
  | (a, w) :: r, h => by
    have ha := h (a, w) (by simp)
    have ha : key a < key k := ha
    show insL key k v ((a, w) :: (r ++ X)) = _
    rw [insL, if_neg (by omega), if_pos ha, insL_gt (fun p hp => h p (by simp [hp]))]
    rfl
theorem insL_lt {k a : κ} {v w : β} {R : List (κ × β)} (h : key k < key a) : ∀ (L : List (κ × β)), insL key k v (L ++ (a, w) :: R) = insL key k v L ++ (a, w) :: R
  | [] => by simp [insL, h]
  | (b, u) :: r => by
    show insL key k v ((b, u) :: (r ++ (a, w) :: R)) = _
    rw [insL, insL]
    split
    · rfl
    · split
      · rw [insL_lt h r]; rfl
      · rfl
theorem insL_eq {k a : κ} {v w : β} {R : List (κ × β)} (h : key a = key k) : insL key k v ((a, w) :: R) = (a, v) :: R := by
  rw [insL, if_neg (by omega), if_neg (by omega)]
theorem delL_gt {k : κ} {X : List (κ × β)} : ∀ {L : List (κ × β)}, (∀ p, p ∈ L → key p.1 < key k) → delL key k (L ++ X) = L ++ delL key k X
  | [], _ => rfl
  | (a, w) :: r, h => by
    have ha : key a < key k := h (a, w) (by simp)
    show delL key k ((a, w) :: (r ++ X)) = _
    rw [delL, if_neg (by omega), delL_gt (fun p hp => h p (by simp [hp]))]
    rfl
theorem delL_none {k : κ} : ∀ {R : List (κ × β)}, (∀ p, p ∈ R → key k < key p.1) → delL key k R = R
  | [], _ => rfl
  | (a, w) :: r, h => by
    have ha : key k < key a := h (a, w) (by simp)
    rw [delL, if_neg (by omega), delL_none (fun p hp => h p (by simp [hp]))]
theorem delL_lt {k a : κ} {w : β} {R : List (κ × β)} (h : key k < key a) (hR : ∀ p, p ∈ R → key a < key p.1) : ∀ (L : List (κ × β)), delL key k (L ++ (a, w) :: R) = delL key k L ++ (a, w) :: R
  | [] => by
    show delL key k ((a, w) :: R) = (a, w) :: R
    rw [delL, if_neg (by omega), delL_none (fun p hp => by have := hR p hp; omega)]
  | (b, u) :: r => by
    show delL key k ((b, u) :: (r ++ (a, w) :: R)) = _
    rw [delL, delL]
    split
    · rfl
    · rw [delL_lt h hR r]; rfl
theorem delL_eq {k a : κ} {w : β} {R : List (κ × β)} (h : key a = key k) : delL key k ((a, w) :: R) = R := by rw [delL, if_pos h]
theorem below_gt {k : κ} {X : List (κ × β)} : ∀ {L : List (κ × β)}, (∀ p, p ∈ L → key p.1 < key k) → below key k (L ++ X) = L.length + below key k X
  | [], _ => by simp
  | (a, w) :: r, h => by
    have ha : key a < key k := h (a, w) (by simp)
    show below key k ((a, w) :: (r ++ X)) = _
    rw [below, if_pos ha, below_gt (fun p hp => h p (by simp [hp]))]
    simp; omega
theorem below_lt {k a : κ} {w : β} {R : List (κ × β)} (h : ¬ key a < key k) : ∀ (L : List (κ × β)), below key k (L ++ (a, w) :: R) = below key k L
  | [] => by simp [below, h]
  | (b, u) :: r => by
    show below key k ((b, u) :: (r ++ (a, w) :: R)) = _
    rw [below, below]
    split
    · rw [below_lt h r]
    · rfl
theorem getL_gt {k : κ} {X : List (κ × β)} : ∀ {L : List (κ × β)}, (∀ p, p ∈ L → key p.1 < key k) → getL key k (L ++ X) = getL key k X
  | [], _ => rfl
  | (a, w) :: r, h => by
    have ha : key a < key k := h (a, w) (by simp)
    show getL key k ((a, w) :: (r ++ X)) = _
    rw [getL, if_neg (by omega), getL_gt (fun p hp => h p (by simp [hp]))]
theorem getL_none {k : κ} : ∀ {R : List (κ × β)}, (∀ p, p ∈ R → key k < key p.1) → getL key k R = none
  | [], _ => rfl
  | (a, w) :: r, h => by
    have ha : key k < key a := h (a, w) (by simp)
    rw [getL, if_neg (by omega), getL_none (fun p hp => h p (by simp [hp]))]
theorem getL_lt {k a : κ} {w : β} {R : List (κ × β)} (h : key k < key a) (hR : ∀ p, p ∈ R → key a < key p.1) : ∀ (L : List (κ × β)), getL key k (L ++ (a, w) :: R) = getL key k L
  | [] => by
    show getL key k ((a, w) :: R) = none
    rw [getL, if_neg (by omega), getL_none (fun p hp => by have := hR p hp; omega)]
  | (b, u) :: r => by
    show getL key k ((b, u) :: (r ++ (a, w) :: R)) = _
    rw [getL, getL]
    split
    · rfl
    · rw [getL_lt h hR r]
theorem getL_eq {k a : κ} {w : β} {R : List (κ × β)} (h : key a = key k) : getL key k ((a, w) :: R) = some w := by rw [getL, if_pos h]

/-- In order it stays. -/
theorem insL_mem {k : κ} {v : β} {p : κ × β} : ∀ {L : List (κ × β)}, p ∈ insL key k v L → key p.1 = key k ∨ p ∈ L
  | [], h => by rw [insL, List.mem_singleton] at h; exact .inl (by rw [h])
  | (a, w) :: r, h => by
    rw [insL] at h
    split at h
    · rcases List.mem_cons.1 h with rfl | h
      · exact .inl rfl
      · exact .inr h
    · split at h
      · rcases List.mem_cons.1 h with rfl | h
        · exact .inr (by simp)
        · rcases insL_mem h with h | h
          · exact .inl h
          · exact .inr (by simp [h])
      · rcases List.mem_cons.1 h with rfl | h
        · exact .inl (by show key a = key k; omega)
        · exact .inr (by simp [h])
theorem Srt.ins {k : κ} {v : β} : ∀ {L : List (κ × β)}, Srt key L → Srt key (insL key k v L)
  | [], _ => by rw [insL]; exact List.pairwise_singleton _ _
  | (a, w) :: r, h => by
    unfold Srt at h
    rw [List.pairwise_cons] at h
    rw [insL]
    unfold Srt
    split
    · rename_i hka
      rw [List.pairwise_cons, List.pairwise_cons]
      refine ⟨fun p hp => ?_, h⟩
      rcases List.mem_cons.1 hp with rfl | hp
      · exact hka
      · have := h.1 p hp
        show key k < key p.1
        have : key a < key p.1 := this
        omega
    · split
      · rename_i hak
        rw [List.pairwise_cons]
        refine ⟨fun p hp => ?_, Srt.ins h.2⟩
        rcases insL_mem hp with e | hp
        · show key a < key p.1
          omega
        · exact h.1 p hp
      · rw [List.pairwise_cons]
        exact h
theorem delL_mem {k : κ} {p : κ × β} : ∀ {L : List (κ × β)}, p ∈ delL key k L → p ∈ L
  | [], h => h
  | (a, w) :: r, h => by
    rw [delL] at h
    split at h
    · simp [h]
    · rcases List.mem_cons.1 h with rfl | h
      · simp
      · simp [delL_mem h]
theorem Srt.del {k : κ} : ∀ {L : List (κ × β)}, Srt key L → Srt key (delL key k L)
  | [], h => h
  | (a, w) :: r, h => by
    unfold Srt at h
    rw [List.pairwise_cons] at h
    rw [delL]
    split
    · exact h.2
    · unfold Srt
      rw [List.pairwise_cons]
      exact ⟨fun p hp => h.1 p (delL_mem hp), Srt.del h.2⟩
theorem insL_len {k : κ} {v : β} : ∀ {L : List (κ × β)}, Srt key L → (insL key k v L).length = L.length + (if (getL key k L).isSome then 0 else 1)
  | [], _ => rfl
  | (a, w) :: r, h => by
    unfold Srt at h
    rw [List.pairwise_cons] at h
    rw [insL, getL]
    by_cases h1 : key k < key a
    · have hn : ¬ key a = key k := by omega
      rw [if_pos h1, if_neg hn, getL_none (fun p hp => by have : key a < key p.1 := h.1 p hp; omega)]
      simp
    · rw [if_neg h1]
      by_cases h2 : key a < key k
      · have hn : ¬ key a = key k := by omega
        rw [if_pos h2, if_neg hn, List.length_cons, insL_len h.2, List.length_cons]
        omega
      · have hn : key a = key k := by omega
        rw [if_neg h2, if_pos hn]
        simp
theorem delL_len {k : κ} : ∀ {L : List (κ × β)}, (delL key k L).length + (if (getL key k L).isSome then 1 else 0) = L.length
  | [] => rfl
  | (a, w) :: r => by
    rw [delL, getL]
    split
    · simp
    · rw [List.length_cons, List.length_cons, ← delL_len (k := k) (L := r)]
      omega
end
end Go.Proofs.YtffpmmphpdkkbaaGreat.Co
namespace Go.Proofs.YtffpmmphpdkkbaaGreat.Co
open Go Go.Proofs

/-! ### Words of at most M bytes, as numbers in the same order -/
abbrev K (M : Nat) : Type := {s : ByteArray // s.size ≤ M}
def keyL : Nat → List UInt8 → Int
  | 0, _ => 0
  | _ + 1, [] => 0
  | m + 1, b :: r => ((b.toNat : Int) + 1) * 257 ^ m + keyL m r
theorem keyL_bd : ∀ (m : Nat) (l : List UInt8), 0 ≤ keyL m l ∧ keyL m l < 257 ^ m
  | 0, _ => by simp [keyL]
  | m + 1, [] => by
    refine ⟨Int.le_refl _, ?_⟩
    rw [keyL]
    exact Int.pow_pos (by decide)
  | m + 1, b :: r => by
    obtain ⟨h1, h2⟩ := keyL_bd m r
    have hb : b.toNat < 256 := b.toNat_lt
    have hp : (0 : Int) < 257 ^ m := Int.pow_pos (by decide)
    rw [keyL, Int.pow_succ]
    generalize (257 : Int) ^ m = P at *
    have h3 : ((b.toNat : Int) + 1) * P ≤ 256 * P := Int.mul_le_mul_of_nonneg_right (by omega) (Int.le_of_lt hp)
    have h4 : 0 ≤ ((b.toNat : Int) + 1) * P := Int.mul_nonneg (by omega) (Int.le_of_lt hp)
    omega
theorem keyL_lt {m : Nat} {a b : UInt8} {r s : List UInt8} (h : a < b) : keyL (m + 1) (a :: r) < keyL (m + 1) (b :: s) := by
  obtain ⟨h1, h2⟩ := keyL_bd m r
  obtain ⟨h3, h4⟩ := keyL_bd m s
  have hab : a.toNat < b.toNat := h
  rw [keyL, keyL]
  generalize (257 : Int) ^ m = P at *
  have h5 : ((a.toNat : Int) + 1 + 1) * P ≤ ((b.toNat : Int) + 1) * P := Int.mul_le_mul_of_nonneg_right (by omega) (by omega)
  have h6 : ((a.toNat : Int) + 1 + 1) * P = ((a.toNat : Int) + 1) * P + P := by rw [Int.add_mul (_ + 1), Int.one_mul]
  omega
theorem keyL_pos {m : Nat} {b : UInt8} {s : List UInt8} : 0 < keyL (m + 1) (b :: s) := by
  obtain ⟨h3, h4⟩ := keyL_bd m s
  have hp : (0 : Int) < 257 ^ m := Int.pow_pos (by decide)
  rw [keyL]
  have : 0 < ((b.toNat : Int) + 1) * 257 ^ m := Int.mul_pos (by omega) hp
  omega
theorem keyL_cmp : ∀ (m : Nat) (l s : List UInt8), l.length ≤ m → s.length ≤ m → Lib.compareBytes l s = cmp3 (keyL m l) (keyL m s)
  | 0, l, s, h1, h2 => by
    obtain rfl := List.length_eq_zero_iff.1 (Nat.le_zero.1 h1)
    obtain rfl := List.length_eq_zero_iff.1 (Nat.le_zero.1 h2)
    rfl
  | m + 1, [], [], _, _ => by simp [Lib.compareBytes, cmp3]
  | m + 1, [], b :: s, _, _ => by
    have h := keyL_pos (m := m) (b := b) (s := s)
    rw [show keyL (m + 1) [] = 0 from rfl, Lib.compareBytes, cmp3, if_pos h]
  | m + 1, a :: r, [], _, _ => by
    have h := keyL_pos (m := m) (b := a) (s := r)
    rw [show keyL (m + 1) [] = 0 from rfl, Lib.compareBytes, cmp3, if_neg (by omega), if_pos h]
  | m + 1, a :: r, b :: s, h1, h2 => by
    have ih := keyL_cmp m r s (by simpa using h1) (by simpa using h2)
    rw [Lib.compareBytes]
    by_cases hab : a < b
    · have := keyL_lt (m := m) (r := r) (s := s) hab
      rw [if_pos hab, cmp3, if_pos this]
    · by_cases hba : b < a
      · have := keyL_lt (m := m) (r := s) (s := r) hba
        rw [if_neg hab, if_pos hba, cmp3, if_neg (by omega), if_pos this]
      · have e : a = b := by
          have h3 : ¬ a.toNat < b.toNat := hab
          have h4 : ¬ b.toNat < a.toNat := hba
          exact UInt8.toNat_inj.1 (by omega)
        subst e
        rw [if_neg hab, if_neg hab, ih, keyL, keyL, cmp3, cmp3]
        simp only [Int.add_lt_add_iff_left]
def keyOf {M : Nat} (s : K M) : Int := keyL M s.1.data.toList
theorem keyOf_cmp {M : Nat} (a b : K M) : Lib.compareBytes a.1.data.toList b.1.data.toList = cmp3 (keyOf a) (keyOf b) :=
  keyL_cmp M _ _ (by have := a.2; simpa using this) (by have := b.2; simpa using this)
theorem keyOf_inj {M : Nat} {a b : K M} : keyOf a = keyOf b ↔ a.1 = b.1 := by
  constructor
  · intro h
    have hc := keyOf_cmp a b
    rw [h, cmp3_zero.2 rfl] at hc
    have : ∀ (l s : List UInt8), Lib.compareBytes l s = 0 → l = s := by
      intro l
      induction l with
      | nil => intro s h; cases s with
        | nil => rfl
        | cons b s => simp [Lib.compareBytes] at h
      | cons a r ih => intro s h; cases s with
        | nil => simp [Lib.compareBytes] at h
        | cons b s =>
          rw [Lib.compareBytes] at h
          split at h
          · simp at h
          · split at h
            · simp at h
            · rename_i h1 h2
              have h3 : ¬ a.toNat < b.toNat := h1
              have h4 : ¬ b.toNat < a.toNat := h2
              rw [ih s h, UInt8.toNat_inj.1 (show a.toNat = b.toNat by omega)]
    have e := this _ _ hc
    obtain ⟨⟨⟨x⟩⟩, _⟩ := a
    obtain ⟨⟨⟨y⟩⟩, _⟩ := b
    simp at e
    simp [e]
  · intro h
    unfold keyOf
    rw [h]
end Go.Proofs.YtffpmmphpdkkbaaGreat.Co
namespace Go.Proofs.YtffpmmphpdkkbaaGreat.Co.S
open Go Go.RowKit Go.Proofs Go.Proofs.YtffpmmphpdkkbaaGreat Go.Proofs.YtffpmmphpdkkbaaGreat.Co
variable {M : Nat}

/-- A tree in memory: its nodes lie from B on. -/
def Tr (W : World) (B : Nat) : T (K M) Int → Option Addr → Prop
  | .nil, p => p = none
  | .nd k v l r, p => ∃ (b : Nat) (lp rp : Option Addr), p = some ⟨b, 0, none⟩ ∧ B ≤ b ∧ W.heap[b]? = some (.cells #[(Value.string (k).1), (Value.int .i64 (v)), (Value.int .i64 (((l.size + 1 + r.size : Nat) : Int))), .pointer lp, .pointer rp] 164) ∧ Tr W B l lp ∧ Tr W B r rp
theorem lt_of_heap {W : World} {b : Nat} {o : Obj} (h : W.heap[b]? = some o) : b < W.heap.size := (Array.getElem?_eq_some_iff.1 h).1
theorem Tr.of {W W' : World} {B : Nat} (hb : ∀ b, B ≤ b → b < W.heap.size → W'.heap[b]? = W.heap[b]?) : ∀ {t : T (K M) Int} {p : Option Addr}, Tr W B t p → Tr W' B t p
  | .nil, _, h => h
  | .nd _ _ _ _, _, ⟨b, lp, rp, h1, h2, h3, h4, h5⟩ => ⟨b, lp, rp, h1, h2, (hb b h2 (lt_of_heap h3)).trans h3, Tr.of hb h4, Tr.of hb h5⟩
theorem Tr.later {W W' : World} {B : Nat} {t : T (K M) Int} {p : Option Addr} (h : Tr W B t p) (hb : Below W.heap.size W W') : Tr W' B t p := Tr.of (fun b _ h => hb.block b h) h
theorem Tr.drewN {W : World} {B : Nat} {t : T (K M) Int} {p : Option Addr} (h : Tr W B t p) (q : Nat) : Tr (W.drewN q) B t p := Tr.of (W := W) (W' := W.drewN q) (fun _ _ _ => rfl) h
theorem Tr.drew {W : World} {B : Nat} {t : T (K M) Int} {p : Option Addr} (h : Tr W B t p) : Tr W.drew B t p := Tr.of (W := W) (W' := W.drew) (fun _ _ _ => rfl) h
theorem Tr.nilp {W : World} {B : Nat} {t : T (K M) Int} (h : Tr W B t none) : t = .nil := by
  cases t with
  | nil => rfl
  | nd k v l r => obtain ⟨b, lv, rv, h, _⟩ := h; cases h
theorem nd_cell {W : World} {b : Nat} {cs : Array Value} {t : TypeId} (h : W.heap[b]? = some (.cells cs t)) (i : Nat) : W.cell? ⟨b, i, none⟩ = cs[i]? := by simp [World.cell?, h]
/-- What a node's cells tell. -/
structure Nd (W : World) (b : Nat) (k : K M) (v : Int) (n : Int) (lp rp : Option Addr) : Prop where
  c0 : W.cell? ⟨b, 0, none⟩ = some (Value.string (k).1)
  c1 : W.cell? ⟨b, 1, none⟩ = some (Value.int .i64 (v))
  c2 : W.cell? ⟨b, 2, none⟩ = some (Value.int .i64 (n))
  c3 : W.cell? ⟨b, 3, none⟩ = some (.pointer lp)
  c4 : W.cell? ⟨b, 4, none⟩ = some (.pointer rp)
theorem nd_of {W : World} {b : Nat} {k : K M} {v : Int} {n : Int} {lp rp : Option Addr} {t : TypeId} (h : W.heap[b]? = some (.cells #[(Value.string (k).1), (Value.int .i64 (v)), (Value.int .i64 (n)), .pointer lp, .pointer rp] t)) : Nd W b k v n lp rp :=
  ⟨nd_cell h 0, nd_cell h 1, nd_cell h 2, nd_cell h 3, nd_cell h 4⟩
theorem Nd.lt {W : World} {b : Nat} {k : K M} {v : Int} {n : Int} {lp rp : Option Addr} (h : Nd W b k v n lp rp) : b < W.heap.size := World.block_lt_of_cell? W ⟨b, 0, none⟩ h.c0
theorem Nd.of {W W' : World} {b : Nat} {k : K M} {v : Int} {n : Int} {lp rp : Option Addr} (h : Nd W b k v n lp rp) (hb : W'.heap[b]? = W.heap[b]?) : Nd W' b k v n lp rp :=
  ⟨(World.cell?_of_block (w := W) hb).trans h.c0, (World.cell?_of_block (w := W) hb).trans h.c1, (World.cell?_of_block (w := W) hb).trans h.c2, (World.cell?_of_block (w := W) hb).trans h.c3, (World.cell?_of_block (w := W) hb).trans h.c4⟩
theorem Nd.later {W W' : World} {b : Nat} {k : K M} {v : Int} {n : Int} {lp rp : Option Addr} (h : Nd W b k v n lp rp) (hb : Below W.heap.size W W') : Nd W' b k v n lp rp := h.of (hb.block b h.lt)
theorem below_on {W A B : World} (h : Below W.heap.size W A) (k : Below A.heap.size A B) : Below W.heap.size W B := h.trans (k.mono h.size)
theorem below_alloc (W : World) (o : Obj) : Below W.heap.size W (W.alloc o) := (Below.refl _ W).alloc (Nat.le_refl _) o
theorem below_drewN (W : World) (q : Nat) : Below W.heap.size W (W.drewN q) := ⟨rfl, rfl, rfl, Nat.le_refl _, fun _ _ => rfl⟩

theorem count_any (t : T (K M) Int) (p : Option Addr) (B : Nat) (W : World) (h : Tr W B t p) : Calls Tryz.prog 101 #[.pointer p] W fun e w' => e = .returned (Value.int .i64 ((t.size : Int))) ∧ w' = W := by
  cases t with
  | nil =>
    obtain rfl : p = none := h
    go_enter Tryz.func101, Tryz.ntmps101
    go_wp2
    go_ret
    exact ⟨rfl, rfl⟩
  | nd k v l r =>
    obtain ⟨b, lv, rv, rfl, _, hh, _, _⟩ := h
    have hc := (nd_of hh).c2
    show Calls Tryz.prog 101 _ W fun e w' => e = .returned (Value.int .i64 (((l.size + 1 + r.size : Nat) : Int))) ∧ w' = W
    generalize l.size + 1 + r.size = n at hc
    go_enter Tryz.func101, Tryz.ntmps101
    go_wp2
    go_ret
    exact ⟨rfl, rfl⟩
theorem weight_any (t : T (K M) Int) (p : Option Addr) (B : Nat) (hs : t.size ≤ 1000000) (W : World) (h : Tr W B t p) : Calls Tryz.prog 131 #[.pointer p] W fun e w' => e = .returned (Value.int .i64 (((t.size + 1 : Nat) : Int))) ∧ w' = W := by
  have hc := count_any t p B W h
  generalize t.size = n at hs hc
  go_enter Tryz.func131, Tryz.ntmps131
  go_wp2_with (go_at_call 101; refine hc.mono ?_; rintro e w1 ⟨rfl, rfl⟩)
  go_ret
  exact ⟨by simp, rfl⟩

/-- Behind the call there is the tree t. -/
def Makes (W : World) (B : Nat) (t : T (K M) Int) (e : Ending) (W' : World) : Prop := ∃ p, e = .returned (.pointer p) ∧ Tr W' B t p ∧ Below W.heap.size W W'
theorem tr_new (W : World) (B : Nat) (hB : B ≤ W.heap.size) (k : K M) (v : Int) (l r : T (K M) Int) (n : Int) (hn : n = ((l.size + 1 + r.size : Nat) : Int)) (lp rp : Option Addr) (h1 : Tr W B l lp) (h2 : Tr W B r rp) :
    Tr (W.alloc (.cells #[(Value.string (k).1), (Value.int .i64 (v)), (Value.int .i64 (n)), .pointer lp, .pointer rp] 164)) B (.nd k v l r) (some ⟨W.heap.size, 0, none⟩) :=
  ⟨W.heap.size, lp, rp, rfl, hB, by rw [hn]; exact heap_alloc_new W _, h1.later (below_alloc W _), h2.later (below_alloc W _)⟩
set_option maxHeartbeats 1000000 in
theorem beside_any (b : Nat) (k : K M) (v : Int) (n : Int) (xl xr : Option Addr) (l r : T (K M) Int) (pl pr : Option Addr) (B : Nat) (hl : l.size ≤ 1000000) (hr : r.size ≤ 1000000) (W : World) (hB : B ≤ W.heap.size) (hb : Nd W b k v n xl xr)
    (h1 : Tr W B l pl) (h2 : Tr W B r pr) : Calls Tryz.prog 134 #[(Value.pointer (some ⟨b, 0, none⟩)), .pointer pl, .pointer pr] W (Makes W B (.nd k v l r)) := by
  have c1 := count_any l pl B W.drew h1.drew
  have c2 := count_any r pr B W.drew h2.drew
  have HB := Lib.hid (And.intro hB (And.intro h1 h2))
  have ck : ∀ o, (W.alloc o).cell? ⟨b, 0, none⟩ = some (Value.string (k).1) ∧ (W.alloc o).cell? ⟨b, 1, none⟩ = some (Value.int .i64 (v)) := fun o => ⟨(hb.later (below_alloc W o)).c0, (hb.later (below_alloc W o)).c1⟩
  obtain ⟨c0', c1', _, _, _⟩ := hb
  obtain ⟨nl, hnl⟩ : ∃ nl, l.size = nl := ⟨_, rfl⟩
  obtain ⟨nr, hnr⟩ : ∃ nr, r.size = nr := ⟨_, rfl⟩
  rw [hnl] at c1 hl
  rw [hnr] at c2 hr
  have HN := Lib.hid (And.intro hnl hnr)
  clear hnl hnr hB h1 h2
  go_enter Tryz.func134, Tryz.ntmps134
  go_wp2_with fail
  go_region_held3 (fun w => w.cell? ⟨b, 0, none⟩ = some (Value.string (k).1) ∧ w.cell? ⟨b, 1, none⟩ = some (Value.int .i64 (v))) (first | exact ⟨c0', c1'⟩ | exact ck _) (first
    | (go_at_call 101; (with_reducible refine c1.mono ?_); rintro e w1 ⟨rfl, rfl⟩)
    | (go_at_call 101; (with_reducible refine c2.mono ?_); rintro e w1 ⟨rfl, rfl⟩))
  go_wp2_with fail
  go_ret
  exact ⟨_, rfl, (tr_new W B HB.out.1 k v l r _ (by rw [Go.IntWalk.i64_left, Go.IntWalk.i64_left, Go.IntWalk.wrap64_in ((nl : Int) + 1) (by omega), Go.IntWalk.wrap64_in ((nl : Int) + 1 + nr) (by omega), HN.out.1, HN.out.2]; omega) pl pr HB.out.2.1 HB.out.2.2).drew, (below_alloc W _).drew⟩
end Go.Proofs.YtffpmmphpdkkbaaGreat.Co.S
namespace Go.Proofs.YtffpmmphpdkkbaaGreat.Co.S
open Go Go.RowKit Go.Proofs Go.Proofs.YtffpmmphpdkkbaaGreat Go.Proofs.YtffpmmphpdkkbaaGreat.Co
variable {M : Nat}

/-- Behind the call there is a tree of the list L. -/
def MakesL (W : World) (B : Nat) (L : List (K M × Int)) (e : Ending) (W' : World) : Prop := ∃ t p, e = .returned (.pointer p) ∧ Tr W' B t p ∧ t.toL = L ∧ Below W.heap.size W W'
theorem size_of {t : T (K M) Int} {L : List (K M × Int)} (h : t.toL = L) : t.size = L.length := by rw [← h, T.len]

set_option maxRecDepth 100000 in
set_option maxHeartbeats 1000000 in
theorem tL_any (b : Nat) (k : K M) (v : Int) (n : Int) (xl xr : Option Addr) (l r : T (K M) Int) (pl pr : Option Addr) (B : Nat) (hr0 : r ≠ .nil) (hs : l.size + 1 + r.size ≤ 1000000) (W : World) (hB : B ≤ W.heap.size) (hb : Nd W b k v n xl xr)
    (h1 : Tr W B l pl) (h2 : Tr W B r pr) : Calls Tryz.prog 132 #[(Value.pointer (some ⟨b, 0, none⟩)), .pointer pl, .pointer pr] W (MakesL W B (l.toL ++ (k, v) :: r.toL)) := by
  cases r with
  | nil => exact absurd rfl hr0
  | nd k2 v2 il ol =>
    obtain ⟨b2, ip, op, rfl, hb2, hh2, hi, ho⟩ := h2
    have hn2 := nd_of hh2
    have hs' : l.size + 1 + (il.size + 1 + ol.size) ≤ 1000000 := hs
    have w1 := fun q => weight_any il ip B (by omega) (W.drewN q) (hi.drewN q)
    have w2 := fun q => weight_any ol op B (by omega) (W.drewN q) (ho.drewN q)
    have HW := Lib.hid (And.intro hb (And.intro h1 (And.intro hn2 (And.intro hi (And.intro ho hB)))))
    clear hb h1 hi ho hB hh2
    obtain ⟨_, _, _, c3, c4⟩ := hn2
    go_enter Tryz.func132, Tryz.ntmps132
    go_wp2_with fail
    go_quiet (fail)
    clear c3 c4
    by_cases hw : il.size + 1 < 2 * (ol.size + 1)
    · have hw' : ((il.size : Int) + 1) < 2 * ((ol.size : Int) + 1) := by omega
      have b1 := beside_any b k v n xl xr l il pl ip B (by omega) (by omega) (W.drewN nq) HW.out.2.2.2.2.2 (HW.out.1.later (below_drewN W nq)) (HW.out.2.1.drewN nq) (HW.out.2.2.2.1.drewN nq)
      go_wp2_with (first
        | (go_at_call 131; (with_reducible refine (w1 _).mono ?_); rintro e x1 ⟨rfl, rfl⟩)
        | (go_at_call 131; (with_reducible refine (w2 _).mono ?_); rintro e x1 ⟨rfl, rfl⟩)
        | (go_at_call 134; (with_reducible refine b1.mono ?_); clear b1; rintro e x1 ⟨p1, rfl, ht1, hb1⟩; have hb1 := below_on (below_drewN W nq) hb1; have b2' := beside_any b2 k2 v2 _ ip op (.nd k v l il) ol p1 op B (by show l.size + 1 + il.size ≤ 1000000; omega) (by omega) x1 (Nat.le_trans HW.out.2.2.2.2.2 hb1.size) (HW.out.2.2.1.later hb1) ht1 (HW.out.2.2.2.2.1.later hb1))
        | (go_at_call 134; (with_reducible refine b2'.mono ?_); clear b2'; rintro e x2 ⟨p2, rfl, ht2, hb2⟩))
      go_ret
      exact ⟨_, p2, rfl, ht2, by simp [T.toL], below_on hb1 hb2⟩
    · have hw' : ¬ ((il.size : Int) + 1) < 2 * ((ol.size : Int) + 1) := by omega
      cases il with
      | nil => exact absurd hw (by simp [T.size]; omega)
      | nd k3 v3 a c =>
        obtain ⟨b3, ap, cp, rfl, hb3, hh3, ha, hc⟩ := HW.out.2.2.2.1
        have hn3 := nd_of hh3
        have hs3 : l.size + 1 + (a.size + 1 + c.size + 1 + ol.size) ≤ 1000000 := hs
        have b1 := beside_any b k v n xl xr l a pl ap B (by omega) (by omega) (W.drewN (nq + 1)) HW.out.2.2.2.2.2 (HW.out.1.later (below_drewN W (nq + 1))) (HW.out.2.1.drewN (nq + 1)) (ha.drewN (nq + 1))
        have HW3 := Lib.hid (And.intro ha (And.intro hc hn3))
        have hn3' := hn3.later (below_drewN W nq)
        have hn3d := hn3.later (below_drewN W (nq + 1))
        clear ha hc hh3 hn3
        generalize (T.nd k3 v3 a c).size = zi at w1 hw'
        go_upto_region 4 with (first
          | (go_at_call 131; (with_reducible refine (w1 _).mono ?_); rintro e x1 ⟨rfl, rfl⟩)
          | (go_at_call 131; (with_reducible refine (w2 _).mono ?_); rintro e x1 ⟨rfl, rfl⟩))
        go_region_held3 (fun w => w.cell? ⟨b3, 3, none⟩ = some (.pointer ap) ∧ w.cell? ⟨b3, 4, none⟩ = some (.pointer cp)) (first | exact ⟨hn3'.c3, hn3'.c4⟩ | exact ⟨hn31.c3, hn31.c4⟩ | exact ⟨hn32.c3, hn32.c4⟩ | exact ⟨hn33.c3, hn33.c4⟩ | exact ⟨hn3d.c3, hn3d.c4⟩) (first
          | (go_at_call 134; (with_reducible refine b1.mono ?_); clear b1; rintro e x1 ⟨p1, rfl, ht1, hb1⟩; have hb1 := below_on (below_drewN W (nq + 1)) hb1; have hn31 := HW3.out.2.2.later hb1; have b2' := beside_any b2 k2 v2 _ _ op c ol cp op B (by omega) (by omega) x1 (Nat.le_trans HW.out.2.2.2.2.2 hb1.size) (HW.out.2.2.1.later hb1) (HW3.out.2.1.later hb1) (HW.out.2.2.2.2.1.later hb1))
          | (go_at_call 134; (with_reducible refine b2'.mono ?_); clear b2'; rintro e x2 ⟨p2, rfl, ht2, hb2⟩; have ht1 := ht1.later hb2; have hb2 := below_on hb1 hb2; have hn32 := HW3.out.2.2.later hb2; have b3' := beside_any b3 k3 v3 _ ap cp (.nd k v l a) (.nd k2 v2 c ol) p1 p2 B (by show l.size + 1 + a.size ≤ 1000000; omega) (by show c.size + 1 + ol.size ≤ 1000000; omega) x2 (Nat.le_trans HW.out.2.2.2.2.2 hb2.size) hn32 ht1 ht2)
          | (go_at_call 134; (with_reducible refine b3'.mono ?_); clear b3'; rintro e x3 ⟨p3, rfl, ht3, hb3⟩; have hb3 := below_on hb2 hb3; have hn33 := HW3.out.2.2.later hb3))
        go_wp2_with fail
        go_ret
        exact ⟨_, p3, rfl, ht3, by simp [T.toL], hb3⟩
end Go.Proofs.YtffpmmphpdkkbaaGreat.Co.S
namespace Go.Proofs.YtffpmmphpdkkbaaGreat.Co.S
open Go Go.RowKit Go.Proofs Go.Proofs.YtffpmmphpdkkbaaGreat Go.Proofs.YtffpmmphpdkkbaaGreat.Co
variable {M : Nat}

set_option maxRecDepth 100000 in
set_option maxHeartbeats 1000000 in
theorem tR_any (b : Nat) (k : K M) (v : Int) (n : Int) (xl xr : Option Addr) (l r : T (K M) Int) (pl pr : Option Addr) (B : Nat) (hl0 : l ≠ .nil) (hs : l.size + 1 + r.size ≤ 1000000) (W : World) (hB : B ≤ W.heap.size) (hb : Nd W b k v n xl xr)
    (h1 : Tr W B l pl) (h2 : Tr W B r pr) : Calls Tryz.prog 133 #[(Value.pointer (some ⟨b, 0, none⟩)), .pointer pl, .pointer pr] W (MakesL W B (l.toL ++ (k, v) :: r.toL)) := by
  cases l with
  | nil => exact absurd rfl hl0
  | nd k2 v2 ol il =>
    obtain ⟨b2, op, ip, rfl, hb2, hh2, ho, hi⟩ := h1
    have hn2 := nd_of hh2
    have hs' : (ol.size + 1 + il.size) + 1 + r.size ≤ 1000000 := hs
    have w1 := fun q => weight_any il ip B (by omega) (W.drewN q) (hi.drewN q)
    have w2 := fun q => weight_any ol op B (by omega) (W.drewN q) (ho.drewN q)
    have HW := Lib.hid (And.intro hb (And.intro h2 (And.intro hn2 (And.intro hi (And.intro ho hB)))))
    clear hb h2 hi ho hB hh2
    obtain ⟨_, _, _, c3, c4⟩ := hn2
    go_enter Tryz.func133, Tryz.ntmps133
    go_wp2_with fail
    go_quiet (fail)
    clear c3 c4
    by_cases hw : il.size + 1 < 2 * (ol.size + 1)
    · have hw' : ((il.size : Int) + 1) < 2 * ((ol.size : Int) + 1) := by omega
      have b1 := beside_any b k v n xl xr il r ip pr B (by omega) (by omega) (W.drewN nq) HW.out.2.2.2.2.2 (HW.out.1.later (below_drewN W nq)) (HW.out.2.2.2.1.drewN nq) (HW.out.2.1.drewN nq)
      go_wp2_with (first
        | (go_at_call 131; (with_reducible refine (w1 _).mono ?_); rintro e x1 ⟨rfl, rfl⟩)
        | (go_at_call 131; (with_reducible refine (w2 _).mono ?_); rintro e x1 ⟨rfl, rfl⟩)
        | (go_at_call 134; (with_reducible refine b1.mono ?_); clear b1; rintro e x1 ⟨p1, rfl, ht1, hb1⟩; have hb1 := below_on (below_drewN W nq) hb1; have b2' := beside_any b2 k2 v2 _ op ip ol (.nd k v il r) op p1 B (by omega) (by show il.size + 1 + r.size ≤ 1000000; omega) x1 (Nat.le_trans HW.out.2.2.2.2.2 hb1.size) (HW.out.2.2.1.later hb1) (HW.out.2.2.2.2.1.later hb1) ht1)
        | (go_at_call 134; (with_reducible refine b2'.mono ?_); clear b2'; rintro e x2 ⟨p2, rfl, ht2, hb2⟩))
      go_ret
      exact ⟨_, p2, rfl, ht2, by simp [T.toL], below_on hb1 hb2⟩
    · have hw' : ¬ ((il.size : Int) + 1) < 2 * ((ol.size : Int) + 1) := by omega
      cases il with
      | nil => exact absurd hw (by simp [T.size]; omega)
      | nd k3 v3 a c =>
        obtain ⟨b3, ap, cp, rfl, hb3, hh3, ha, hc⟩ := HW.out.2.2.2.1
        have hn3 := nd_of hh3
        have hs3 : (ol.size + 1 + (a.size + 1 + c.size)) + 1 + r.size ≤ 1000000 := hs
        have b1 := beside_any b2 k2 v2 _ _ _ ol a op ap B (by omega) (by omega) (W.drewN (nq + 1)) HW.out.2.2.2.2.2 (HW.out.2.2.1.later (below_drewN W (nq + 1))) (HW.out.2.2.2.2.1.drewN (nq + 1)) (ha.drewN (nq + 1))
        have HW3 := Lib.hid (And.intro ha (And.intro hc hn3))
        have hn3' := hn3.later (below_drewN W nq)
        have hn3d := hn3.later (below_drewN W (nq + 1))
        clear ha hc hh3 hn3
        generalize (T.nd k3 v3 a c).size = zi at w1 hw'
        go_upto_region 4 with (first
          | (go_at_call 131; (with_reducible refine (w1 _).mono ?_); rintro e x1 ⟨rfl, rfl⟩)
          | (go_at_call 131; (with_reducible refine (w2 _).mono ?_); rintro e x1 ⟨rfl, rfl⟩))
        go_region_held3 (fun w => w.cell? ⟨b3, 3, none⟩ = some (.pointer ap) ∧ w.cell? ⟨b3, 4, none⟩ = some (.pointer cp)) (first | exact ⟨hn3'.c3, hn3'.c4⟩ | exact ⟨hn31.c3, hn31.c4⟩ | exact ⟨hn32.c3, hn32.c4⟩ | exact ⟨hn33.c3, hn33.c4⟩ | exact ⟨hn3d.c3, hn3d.c4⟩) (first
          | (go_at_call 134; (with_reducible refine b1.mono ?_); clear b1; rintro e x1 ⟨p1, rfl, ht1, hb1⟩; have hb1 := below_on (below_drewN W (nq + 1)) hb1; have hn31 := HW3.out.2.2.later hb1; have b2' := beside_any b k v _ _ _ c r cp pr B (by omega) (by omega) x1 (Nat.le_trans HW.out.2.2.2.2.2 hb1.size) (HW.out.1.later hb1) (HW3.out.2.1.later hb1) (HW.out.2.1.later hb1))
          | (go_at_call 134; (with_reducible refine b2'.mono ?_); clear b2'; rintro e x2 ⟨p2, rfl, ht2, hb2⟩; have ht1 := ht1.later hb2; have hb2 := below_on hb1 hb2; have hn32 := HW3.out.2.2.later hb2; have b3' := beside_any b3 k3 v3 _ ap cp (.nd k2 v2 ol a) (.nd k v c r) p1 p2 B (by show ol.size + 1 + a.size ≤ 1000000; omega) (by show c.size + 1 + r.size ≤ 1000000; omega) x2 (Nat.le_trans HW.out.2.2.2.2.2 hb2.size) hn32 ht1 ht2)
          | (go_at_call 134; (with_reducible refine b3'.mono ?_); clear b3'; rintro e x3 ⟨p3, rfl, ht3, hb3⟩; have hb3 := below_on hb2 hb3; have hn33 := HW3.out.2.2.later hb3))
        go_wp2_with fail
        go_ret
        exact ⟨_, p3, rfl, ht3, by simp [T.toL], hb3⟩

set_option maxRecDepth 100000 in
set_option maxHeartbeats 1000000 in
theorem balanced_any (b : Nat) (k : K M) (v : Int) (n : Int) (xl xr : Option Addr) (l r : T (K M) Int) (pl pr : Option Addr) (B : Nat) (hs : l.size + 1 + r.size ≤ 1000000) (W : World) (hB : B ≤ W.heap.size) (hb : Nd W b k v n xl xr)
    (h1 : Tr W B l pl) (h2 : Tr W B r pr) : Calls Tryz.prog 127 #[(Value.pointer (some ⟨b, 0, none⟩)), .pointer pl, .pointer pr] W (MakesL W B (l.toL ++ (k, v) :: r.toL)) := by
  have wl := weight_any l pl B (by omega) W h1
  have wr := weight_any r pr B (by omega) W h2
  by_cases c1 : 3 * (l.size + 1) < r.size + 1
  · have c1' : 3 * ((l.size : Int) + 1) < (r.size : Int) + 1 := by omega
    have hc := tL_any b k v n xl xr l r pl pr B (by intro e; rw [e] at c1; simp [T.size] at c1) hs W hB hb h1 h2
    go_enter Tryz.func127, Tryz.ntmps127
    go_wp2_with (first
      | (go_at_call 131; (with_reducible refine wr.mono ?_); rintro e x1 ⟨rfl, rfl⟩)
      | (go_at_call 131; (with_reducible refine wl.mono ?_); rintro e x1 ⟨rfl, rfl⟩)
      | (go_at_call 132; (with_reducible refine hc.mono ?_); rintro e x1 ⟨t, p, rfl, h⟩))
    go_ret
    exact ⟨t, p, rfl, h⟩
  · have c1' : ¬ 3 * ((l.size : Int) + 1) < (r.size : Int) + 1 := by omega
    by_cases c2 : 3 * (r.size + 1) < l.size + 1
    · have c2' : 3 * ((r.size : Int) + 1) < (l.size : Int) + 1 := by omega
      have hc := tR_any b k v n xl xr l r pl pr B (by intro e; rw [e] at c2; simp [T.size] at c2) hs W hB hb h1 h2
      go_enter Tryz.func127, Tryz.ntmps127
      go_wp2_with (first
        | (go_at_call 131; (with_reducible refine wr.mono ?_); rintro e x1 ⟨rfl, rfl⟩)
        | (go_at_call 131; (with_reducible refine wl.mono ?_); rintro e x1 ⟨rfl, rfl⟩)
        | (go_at_call 133; (with_reducible refine hc.mono ?_); rintro e x1 ⟨t, p, rfl, h⟩))
      go_ret
      exact ⟨t, p, rfl, h⟩
    · have c2' : ¬ 3 * ((r.size : Int) + 1) < (l.size : Int) + 1 := by omega
      have hc := beside_any b k v n xl xr l r pl pr B (by omega) (by omega) W hB hb h1 h2
      go_enter Tryz.func127, Tryz.ntmps127
      go_wp2_with (first
        | (go_at_call 131; (with_reducible refine wr.mono ?_); rintro e x1 ⟨rfl, rfl⟩)
        | (go_at_call 131; (with_reducible refine wl.mono ?_); rintro e x1 ⟨rfl, rfl⟩)
        | (go_at_call 134; (with_reducible refine hc.mono ?_); rintro e x1 ⟨p, rfl, ht, hbe⟩))
      go_ret
      exact ⟨_, p, rfl, ht, rfl, hbe⟩
end Go.Proofs.YtffpmmphpdkkbaaGreat.Co.S
