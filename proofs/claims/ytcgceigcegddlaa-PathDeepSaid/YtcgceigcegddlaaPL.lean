/- The star's tables. -/
import Derived.Test.YtcgceigcegddlaaPK
import Derived.Test.YtcgceigcegddlaaBG
namespace Go.Proofs.Ytcgceigcegddlaa
open Go Go.RowKit Go.Proofs

theorem fold_old : ∀ (os : List Obj) (W : World) (k : Nat), k < W.heap.size → (os.foldl World.alloc W).heap[k]? = W.heap[k]?
  | [], _, _, _ => rfl
  | o :: os, W, k, h => by
    rw [List.foldl_cons, fold_old os _ _ (by rw [World.size_alloc]; omega)]
    exact Below.heap_alloc W o k h
theorem fold_at : ∀ (os : List Obj) (W : World) (i : Nat), i < os.length → (os.foldl World.alloc W).heap[W.heap.size + i]? = os[i]?
  | [], _, _, h => absurd h (Nat.not_lt_zero _)
  | o :: os, W, 0, _ => by
    rw [List.foldl_cons, fold_old os _ _ (by rw [World.size_alloc]; omega)]
    exact heap_alloc_new W o
  | o :: os, W, i + 1, h => by
    rw [List.foldl_cons]
    have := fold_at os (W.alloc o) i (by simpa using h)
    rw [World.size_alloc] at this
    rw [show W.heap.size + (i + 1) = W.heap.size + 1 + i by omega, this]; rfl
theorem fold_below : ∀ (os : List Obj) (W : World), Below W.heap.size W (os.foldl World.alloc W)
  | [], _ => Below.refl _ _
  | o :: os, W => by
    rw [List.foldl_cons]
    exact below_on (below_alloc W o) (fold_below os _)
theorem depLit {W : World} {b b2 : Nat} {x r : ByteArray} (h : W.heap[b]? = some (.cells #[.slice (some ⟨b2, 0, none⟩) 1 1, .string r] 71)) (h2 : W.heap[b2]? = some (.cells #[.string x] 9)) : RdD W (.slice (some ⟨b, 0, none⟩) 1 1) [⟨[x], r⟩] :=
  ⟨[.slice (some ⟨b2, 0, none⟩) 1 1], rfl, ⟨rfl, _, 1, rfl, Nat.le_refl _, by decide, fun a h => (by cases h; rfl), fun _ => ⟨b, 0, _, 71, _, rfl, h, by decide, by decide, fun j u hj => by
    rw [Nat.zero_add, List.getElem?_toArray]; exact hj⟩⟩, fun j a b => by
    have : j = 0 := by simp at a; omega
    subst this
    exact (Wd.lit h2).rd⟩
abbrev sLand : ByteArray := ⟨#[108, 97, 110, 100]⟩
abbrev sId : ByteArray := ⟨#[105, 100]⟩
abbrev sName : ByteArray := ⟨#[110, 97, 109, 101]⟩
abbrev sShop : ByteArray := ⟨#[115, 104, 111, 112]⟩
abbrev sCity : ByteArray := ⟨#[99, 105, 116, 121]⟩
abbrev sZone : ByteArray := ⟨#[122, 111, 110, 101]⟩
abbrev sDay : ByteArray := ⟨#[100, 97, 121]⟩
abbrev sD : ByteArray := ⟨#[100]⟩
abbrev sMonth : ByteArray := ⟨#[109, 111, 110, 116, 104]⟩
abbrev sYear : ByteArray := ⟨#[121, 101, 97, 114]⟩
abbrev sSale : ByteArray := ⟨#[115, 97, 108, 101]⟩
abbrev sN : ByteArray := ⟨#[110]⟩
abbrev sTag : ByteArray := ⟨#[116, 97, 103]⟩
def tLand : T := ⟨sLand, [⟨sId, 1, false, e0⟩, ⟨sName, 2, false, e0⟩], sId, []⟩
def tShopS : T := ⟨sShop, [⟨sId, 1, false, e0⟩, ⟨sCity, 2, true, e0⟩, ⟨sZone, 2, false, e0⟩, ⟨sLand, 1, false, sLand⟩], sId, [⟨[sCity], sZone⟩]⟩
def tDay : T := ⟨sDay, [⟨sD, 2, false, e0⟩, ⟨sMonth, 1, true, e0⟩, ⟨sYear, 1, false, e0⟩], sD, [⟨[sMonth], sYear⟩]⟩
def tSaleS : T := ⟨sSale, [⟨sShop, 1, false, sShop⟩, ⟨sDay, 2, false, sDay⟩, ⟨sN, 1, false, e0⟩, ⟨sTag, 2, false, e0⟩], e0, []⟩
def starT : List T := [tLand, tShopS, tDay, tSaleS]
def sl (b n : Nat) : Value := .slice (some ⟨b, 0, none⟩) n n
def starCells (S : Nat) : List Value := [.string sLand, sl S 2, .string sId, .slice none 0 0, .string sShop, sl (S + 1) 4, .string sId, sl (S + 3) 1, .string sDay, sl (S + 4) 3, .string sD, sl (S + 6) 1, .string sSale, sl (S + 7) 4, .string e0, .slice none 0 0]
def starO (S : Nat) : List Obj := [.cells (cellsC tLand.cols).toArray 33, .cells (cellsC tShopS.cols).toArray 33, .cells #[.string sCity] 9, .cells #[sl (S + 2) 1, .string sZone] 71, .cells (cellsC tDay.cols).toArray 33, .cells #[.string sMonth] 9, .cells #[sl (S + 5) 1, .string sYear] 71, .cells (cellsC tSaleS.cols).toArray 33, .cells (starCells S).toArray 53]
theorem star_mem (W : World) : RdTs ((starO W.heap.size).foldl World.alloc W) (sl (W.heap.size + 8) 4) starT := by
  have h := fun i hi => fold_at (starO W.heap.size) W i hi
  obtain ⟨w, hw⟩ : ∃ w, (starO W.heap.size).foldl World.alloc W = w := ⟨_, rfl⟩
  rw [hw] at h ⊢
  obtain ⟨S, hS⟩ : ∃ S, W.heap.size = S := ⟨_, rfl⟩
  rw [hS] at h ⊢
  have h0 := h 0 (show (0 : Nat) < 9 by decide)
  have h1 := h 1 (show (1 : Nat) < 9 by decide)
  have h2 := h 2 (show (2 : Nat) < 9 by decide)
  have h3 := h 3 (show (3 : Nat) < 9 by decide)
  have h4 := h 4 (show (4 : Nat) < 9 by decide)
  have h5 := h 5 (show (5 : Nat) < 9 by decide)
  have h6 := h 6 (show (6 : Nat) < 9 by decide)
  have h7 := h 7 (show (7 : Nat) < 9 by decide)
  have h8 := h 8 (show (8 : Nat) < 9 by decide)
  have t0 : RdT w (sl S 2) (.slice none 0 0) tLand := ⟨RdC.lit (l := tLand.cols) h0 (by decide), RdD.none _⟩
  have t1 : RdT w (sl (S + 1) 4) (sl (S + 3) 1) tShopS := ⟨RdC.lit (l := tShopS.cols) h1 (by decide), depLit (b2 := S + 2) h3 h2⟩
  have t2 : RdT w (sl (S + 4) 3) (sl (S + 6) 1) tDay := ⟨RdC.lit (l := tDay.cols) h4 (by decide), depLit (b2 := S + 5) h6 h5⟩
  have t3 : RdT w (sl (S + 7) 4) (.slice none 0 0) tSaleS := ⟨RdC.lit (l := tSaleS.cols) h7 (by decide), RdD.none _⟩
  refine ⟨_, 4, starCells S, rfl, Nat.le_refl _, by decide, fun _ => ⟨S + 8, 0, rfl, lt_of_heap h8, fun j u hj => ?_⟩, rfl, fun j hj => ?_⟩
  · rw [nd_cell h8, Nat.zero_add, List.getElem?_toArray]; exact hj
  · match j, hj with
    | 0, _ => exact ⟨_, _, rfl, rfl, rfl, rfl, t0⟩
    | 1, _ => exact ⟨_, _, rfl, rfl, rfl, rfl, t1⟩
    | 2, _ => exact ⟨_, _, rfl, rfl, rfl, rfl, t2⟩
    | 3, _ => exact ⟨_, _, rfl, rfl, rfl, rfl, t3⟩
    | j + 4, hj => exact absurd hj (by simp [starT])
set_option maxRecDepth 100000 in
set_option maxHeartbeats 1000000 in
theorem star_any (W : World) : Calls Try.prog 21 #[] W fun e w' => ∃ v, e = .returned v ∧ RdTs w' v starT ∧ Below W.heap.size W w' := by
  have HM := Lib.hid (And.intro (star_mem W) (fold_below (starO W.heap.size) W))
  go_enter Try.func21, Try.ntmps21
  go_wp2_with fail
  go_ret
  exact ⟨_, rfl, HM.out.1, HM.out.2⟩
theorem star_len : starT.length = 4 := rfl
theorem star_sm : ∀ t ∈ starT, Sm t := by
  intro t ht
  simp only [starT, List.mem_cons, List.not_mem_nil, or_false] at ht
  rcases ht with rfl | rfl | rfl | rfl <;> exact small_of (by decide) (by decide)
/-- What is kept of the star. -/
def starK : List T := starT.map formT
theorem star_kept : kept starT 4 = starK := by
  have h0 : mayP [] tLand = 0 := by decide +kernel
  have h1 : mayP [formT tLand] tShopS = 0 := by decide +kernel
  have h2 : mayP [formT tLand, formT tShopS] tDay = 0 := by decide +kernel
  have h3 : mayP [formT tLand, formT tShopS, formT tDay] tSaleS = 0 := by decide +kernel
  show addT (addT (addT (addT [] tLand) tShopS) tDay) tSaleS = _
  have e0 : addT [] tLand = [formT tLand] := by unfold addT; rw [if_pos h0]; rfl
  have e1 : addT [formT tLand] tShopS = [formT tLand, formT tShopS] := by unfold addT; rw [if_pos h1]; rfl
  have e2 : addT [formT tLand, formT tShopS] tDay = [formT tLand, formT tShopS, formT tDay] := by unfold addT; rw [if_pos h2]; rfl
  have e3 : addT [formT tLand, formT tShopS, formT tDay] tSaleS = starK := by unfold addT; rw [if_pos h3]; rfl
  rw [e0, e1, e2, e3]
end Go.Proofs.Ytcgceigcegddlaa
