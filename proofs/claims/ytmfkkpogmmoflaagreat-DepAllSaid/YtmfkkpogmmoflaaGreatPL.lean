/- The star's tables. begun. PathAll: its walk. -/
import Derived.Test.YtmfkkpogmmoflaaGreatPJ
import Derived.Test.YtmfkkpogmmoflaaGreatBG
import Derived.Test.YtmfkkpogmmoflaaGreatPF
namespace Go.Proofs.YtmfkkpogmmoflaaGreat
open Go Go.RowKit Go.Proofs

theorem fold_old : ∀ (os : List Obj) (W : World) (k : Nat), k < W.heap.size → (os.foldl World.alloc W).heap[k]? = W.heap[k]?
  | [], _, _, _ => rfl
  | o :: os, W, k, h => by
    rw [List.foldl_cons, fold_old os _ _ (by rw [World.size_alloc]; omega)]
    exact Below.heap_alloc W o k h
theorem fold_at : ∀ (os : List Obj) (W : World) (i : Nat), i < os.length → (os.foldl World.alloc W).heap[W.heap.size + i]? = os[i]?
  | [], _, _, h => absurd h (Nat.not_lt_zero _)
  | o :: os, W, 0, _ => by
    rw [List.foldl_cons, fold_old os _ _ (by rw [World.size_alloc]; omega)]
    exact heap_alloc_new W o
  | o :: os, W, i + 1, h => by
    rw [List.foldl_cons]
    have := fold_at os (W.alloc o) i (by simpa using h)
    rw [World.size_alloc] at this
    rw [show W.heap.size + (i + 1) = W.heap.size + 1 + i by omega, this]; rfl
theorem fold_below : ∀ (os : List Obj) (W : World), Below W.heap.size W (os.foldl World.alloc W)
  | [], _ => Below.refl _ _
  | o :: os, W => by
    rw [List.foldl_cons]
    exact below_on (below_alloc W o) (fold_below os _)
theorem depLit {W : World} {b b2 : Nat} {x r : ByteArray} (h : W.heap[b]? = some (.cells #[.slice (some ⟨b2, 0, none⟩) 1 1, .string r] 70)) (h2 : W.heap[b2]? = some (.cells #[.string x] 9)) : RdD W (.slice (some ⟨b, 0, none⟩) 1 1) [⟨[x], r⟩] :=
  ⟨[.slice (some ⟨b2, 0, none⟩) 1 1], rfl, ⟨rfl, _, 1, rfl, Nat.le_refl _, by decide, fun a h => (by cases h; rfl), fun _ => ⟨b, 0, _, 70, _, rfl, h, by decide, by decide, fun j u hj => by
    rw [Nat.zero_add, List.getElem?_toArray]; exact hj⟩⟩, fun j a b => by
    have : j = 0 := by simp at a; omega
    subst this
    exact (Wd.lit h2).rd⟩
abbrev sLand : ByteArray := ⟨#[108, 97, 110, 100]⟩
abbrev sId : ByteArray := ⟨#[105, 100]⟩
abbrev sName : ByteArray := ⟨#[110, 97, 109, 101]⟩
abbrev sShop : ByteArray := ⟨#[115, 104, 111, 112]⟩
abbrev sCity : ByteArray := ⟨#[99, 105, 116, 121]⟩
abbrev sZone : ByteArray := ⟨#[122, 111, 110, 101]⟩
abbrev sDay : ByteArray := ⟨#[100, 97, 121]⟩
abbrev sD : ByteArray := ⟨#[100]⟩
abbrev sMonth : ByteArray := ⟨#[109, 111, 110, 116, 104]⟩
abbrev sYear : ByteArray := ⟨#[121, 101, 97, 114]⟩
abbrev sSale : ByteArray := ⟨#[115, 97, 108, 101]⟩
abbrev sN : ByteArray := ⟨#[110]⟩
abbrev sTag : ByteArray := ⟨#[116, 97, 103]⟩
def tLand : T := ⟨sLand, [⟨sId, 1, false, e0⟩, ⟨sName, 2, false, e0⟩], sId, []⟩
def tShopS : T := ⟨sShop, [⟨sId, 1, false, e0⟩, ⟨sCity, 2, true, e0⟩, ⟨sZone, 2, false, e0⟩, ⟨sLand, 1, false, sLand⟩], sId, [⟨[sCity], sZone⟩]⟩
def tDay : T := ⟨sDay, [⟨sD, 2, false, e0⟩, ⟨sMonth, 1, true, e0⟩, ⟨sYear, 1, false, e0⟩], sD, [⟨[sMonth], sYear⟩]⟩
def tSaleS : T := ⟨sSale, [⟨sShop, 1, false, sShop⟩, ⟨sDay, 2, false, sDay⟩, ⟨sN, 1, false, e0⟩, ⟨sTag, 2, false, e0⟩], e0, []⟩
def starT : List T := [tLand, tShopS, tDay, tSaleS]
def sl (b n : Nat) : Value := .slice (some ⟨b, 0, none⟩) n n
def starCells (S : Nat) : List Value := [.string sLand, sl S 2, .string sId, .slice none 0 0, .string sShop, sl (S + 1) 4, .string sId, sl (S + 3) 1, .string sDay, sl (S + 4) 3, .string sD, sl (S + 6) 1, .string sSale, sl (S + 7) 4, .string e0, .slice none 0 0]
def starO (S : Nat) : List Obj := [.cells (cellsC tLand.cols).toArray 54, .cells (cellsC tShopS.cols).toArray 54, .cells #[.string sCity] 9, .cells #[sl (S + 2) 1, .string sZone] 70, .cells (cellsC tDay.cols).toArray 54, .cells #[.string sMonth] 9, .cells #[sl (S + 5) 1, .string sYear] 70, .cells (cellsC tSaleS.cols).toArray 54, .cells (starCells S).toArray 46]
theorem star_mem (W : World) : RdTs ((starO W.heap.size).foldl World.alloc W) (sl (W.heap.size + 8) 4) starT := by
  have h := fun i hi => fold_at (starO W.heap.size) W i hi
  obtain ⟨w, hw⟩ : ∃ w, (starO W.heap.size).foldl World.alloc W = w := ⟨_, rfl⟩
  rw [hw] at h ⊢
  obtain ⟨S, hS⟩ : ∃ S, W.heap.size = S := ⟨_, rfl⟩
  rw [hS] at h ⊢
  have h0 := h 0 (show (0 : Nat) < 9 by decide)
  have h1 := h 1 (show (1 : Nat) < 9 by decide)
  have h2 := h 2 (show (2 : Nat) < 9 by decide)
  have h3 := h 3 (show (3 : Nat) < 9 by decide)
  have h4 := h 4 (show (4 : Nat) < 9 by decide)
  have h5 := h 5 (show (5 : Nat) < 9 by decide)
  have h6 := h 6 (show (6 : Nat) < 9 by decide)
  have h7 := h 7 (show (7 : Nat) < 9 by decide)
  have h8 := h 8 (show (8 : Nat) < 9 by decide)
  have t0 : RdT w (sl S 2) (.slice none 0 0) tLand := ⟨RdC.lit (l := tLand.cols) h0 (by decide), RdD.none _⟩
  have t1 : RdT w (sl (S + 1) 4) (sl (S + 3) 1) tShopS := ⟨RdC.lit (l := tShopS.cols) h1 (by decide), depLit (b2 := S + 2) h3 h2⟩
  have t2 : RdT w (sl (S + 4) 3) (sl (S + 6) 1) tDay := ⟨RdC.lit (l := tDay.cols) h4 (by decide), depLit (b2 := S + 5) h6 h5⟩
  have t3 : RdT w (sl (S + 7) 4) (.slice none 0 0) tSaleS := ⟨RdC.lit (l := tSaleS.cols) h7 (by decide), RdD.none _⟩
  refine ⟨_, 4, starCells S, rfl, Nat.le_refl _, by decide, fun _ => ⟨S + 8, 0, rfl, lt_of_heap h8, fun j u hj => ?_⟩, rfl, fun j hj => ?_⟩
  · rw [nd_cell h8, Nat.zero_add, List.getElem?_toArray]; exact hj
  · match j, hj with
    | 0, _ => exact ⟨_, _, rfl, rfl, rfl, rfl, t0⟩
    | 1, _ => exact ⟨_, _, rfl, rfl, rfl, rfl, t1⟩
    | 2, _ => exact ⟨_, _, rfl, rfl, rfl, rfl, t2⟩
    | 3, _ => exact ⟨_, _, rfl, rfl, rfl, rfl, t3⟩
    | j + 4, hj => exact absurd hj (by simp [starT])
set_option maxRecDepth 100000 in
set_option maxHeartbeats 1000000 in
theorem star_any (W : World) : Calls Tryz.prog 16 #[] W fun e w' => ∃ v, e = .returned v ∧ RdTs w' v starT ∧ Below W.heap.size W w' := by
  have HM := Lib.hid (And.intro (star_mem W) (fold_below (starO W.heap.size) W))
  go_enter Tryz.func16, Tryz.ntmps16
  go_wp2_with fail
  go_ret
  exact ⟨_, rfl, HM.out.1, HM.out.2⟩
theorem star_len : starT.length = 4 := rfl
theorem star_sm : ∀ t ∈ starT, Sm t := by
  intro t ht
  simp only [starT, List.mem_cons, List.not_mem_nil, or_false] at ht
  rcases ht with rfl | rfl | rfl | rfl <;> exact small_of (by decide) (by decide)
/-- What is kept of the star. -/
def starK : List T := starT.map formT
theorem star_kept : kept starT 4 = starK := by
  have h0 : mayP [] tLand = 0 := by decide +kernel
  have h1 : mayP [formT tLand] tShopS = 0 := by decide +kernel
  have h2 : mayP [formT tLand, formT tShopS] tDay = 0 := by decide +kernel
  have h3 : mayP [formT tLand, formT tShopS, formT tDay] tSaleS = 0 := by decide +kernel
  show addT (addT (addT (addT [] tLand) tShopS) tDay) tSaleS = _
  have e0 : addT [] tLand = [formT tLand] := by unfold addT; rw [if_pos h0]; rfl
  have e1 : addT [formT tLand] tShopS = [formT tLand, formT tShopS] := by unfold addT; rw [if_pos h1]; rfl
  have e2 : addT [formT tLand, formT tShopS] tDay = [formT tLand, formT tShopS, formT tDay] := by unfold addT; rw [if_pos h2]; rfl
  have e3 : addT [formT tLand, formT tShopS, formT tDay] tSaleS = starK := by unfold addT; rw [if_pos h3]; rfl
  rw [e0, e1, e2, e3]
end Go.Proofs.YtmfkkpogmmoflaaGreat
namespace Go.Proofs.YtmfkkpogmmoflaaGreat
open Go Go.RowKit Go.Proofs

/-- Words that are written out. -/
theorem Wd.lits {W : World} {b n : Nat} {l : List ByteArray} (h : W.heap[b]? = some (.cells (cellsS l).toArray 9)) (hn : l.length = n) (hm : n ≤ 1000) : Wd W (.slice (some ⟨b, 0, none⟩) n n) l := by
  subst hn
  exact ⟨_, _, rfl, Nat.le_refl _, by unfold maxLen; omega, fun a h => (by cases h; rfl), fun _ => ⟨b, 0, _, _, rfl, h, fun j hj => by
    rw [Nat.zero_add, List.getElem?_toArray]
    unfold cellsS
    rw [List.getElem?_map, List.getElem?_eq_getElem hj]; rfl⟩⟩
/-- Both, and what is kept of it. -/
structure BothI (S : Nat) (W : World) (ks : List T) (v : Value) (w : World) : Prop where
  sch : SchP w (Value.pointer (some ⟨S, 0, none⟩)) ks
  rd : RdTs w v ks
  below : Below W.heap.size W w
section
variable {S : Nat} {W w w' : World} {ks : List T} {v : Value}
theorem BothI.on (h : BothI S W ks v w) (hb : Below w.heap.size w w') : BothI S W ks v w' := ⟨h.sch.later hb, h.rd.later hb, below_on h.below hb⟩
theorem BothI.mono {W0 : World} (h : BothI S W ks v w) (hb : Below W0.heap.size W0 W) : BothI S W0 ks v w := ⟨h.sch, h.rd, below_on hb h.below⟩
end
theorem both_is {us ks : List T} {v : Value} {W : World} (h : RdTs W v us) (hsm : ∀ t ∈ us, Sm t) (hl : us.length ≤ 1000) (hk : kept us us.length = ks) : Calls Tryz.prog 9 #[v] W fun e w' => ∃ S p n c, e = .returned (.tuple #[(Value.pointer (some ⟨S, 0, none⟩)), .slice p n c]) ∧ n = ks.length ∧ BothI S W ks (.slice p n c) w' := by
  subst hk
  exact (both_any h hsm hl).mono fun e w' ⟨S, p, n, c, xs, h1, h2, h3⟩ => ⟨S, p, n, c, h1, h2, ⟨.inr ⟨S, rfl, h3.st.sch⟩, h3.rd, h3.st.below⟩⟩
theorem pathCol_is {ts : List T} {pv v : Value} {tb : ByteArray} {p : List ByteArray} {W : World} {nm tg u : ByteArray} {kd er : Int} {mu : Bool} (h : SchP W pv ts) (hp : Wd W v p) (hr : pcolL ts tb p = (⟨nm, kd, mu, tg⟩, u, er)) : Calls Tryz.prog 45 #[pv, .string tb, v] W fun e w' => e = .returned (.tuple #[.agg #[.string nm, .int .i64 kd, .bool mu, .string tg], .string u, .int .i64 er]) ∧ Below W.heap.size W w' := by
  have := pathCol_any (tb := tb) h hp
  rw [hr] at this
  exact this
theorem star_few : AllFew starK := star_kept ▸ (kept_inv starT 4).2
theorem star_nice : Nice starK := star_kept ▸ kept_nice starT 4
def shopAll : List (List ByteArray) := [[sCity], [sId], [sLand], [sLand, sId], [sLand, sName], [sZone]]
theorem shop_all : IsAll starK sShop shopAll := ⟨by decide +kernel, by decide +kernel⟩
theorem two_ways (w : World) : Calls Tryz.prog 34 #[.slice (some ⟨w.heap.size, 0, none⟩) 1 1, .slice (some ⟨w.heap.size + 1, 0, none⟩) 2 2] ((w.alloc (.cells #[.string ⟨#[97]⟩] 9)).alloc (.cells #[.string ⟨#[97]⟩, .string ⟨#[98]⟩] 9)) fun e w' => e = .returned (.int .i64 (-1)) ∧ Below w.heap.size w w' := by
  have k2 := heap_alloc_new (w.alloc (.cells #[.string ⟨#[97]⟩] 9)) (.cells #[.string ⟨#[97]⟩, .string ⟨#[98]⟩] 9)
  rw [World.size_alloc] at k2
  refine (pcmp_any (a := [⟨#[97]⟩]) (b := [⟨#[97]⟩, ⟨#[98]⟩]) ((Wd.lits (l := [⟨#[97]⟩]) (n := 1) (heap_alloc_new w _) rfl (by decide)).later (below_alloc _ _)) (Wd.lits (l := [⟨#[97]⟩, ⟨#[98]⟩]) (n := 2) k2 rfl (by decide))).mono ?_
  rintro e w' ⟨rfl, rfl⟩
  exact ⟨rfl, below_on (below_alloc _ _) (below_alloc _ _)⟩
theorem col_1 : pcolL starK sSale [sShop, sLand, sName] = (⟨sName, 2, false, e0⟩, sLand, 0) := rfl
theorem col_2 : pcolL starK sSale [sN, bX] = (⟨e0, 0, false, e0⟩, e0, 9) := rfl
theorem col_3 : pcolL starK sSale [bX] = (⟨e0, 0, false, e0⟩, e0, 3) := rfl
theorem col_4 : pcolL starK sSale [] = (⟨e0, 0, false, e0⟩, e0, 5) := rfl
theorem text_1 : textP [sLand, sId] = ⟨#[108, 97, 110, 100, 46, 105, 100]⟩ := by decide +kernel
theorem short_1 : Short [sLand, sId] := by unfold Short; decide
set_option maxRecDepth 100000 in
set_option maxHeartbeats 4000000 in
theorem pbegun_any (W : World) : Calls Tryz.prog 36 #[] W fun e w' => e = .returned (.bool true) ∧ Below W.heap.size W w' := by
  have hstar := star_any W
  go_enter Tryz.func36, Tryz.ntmps36
  go_upto_region 2 with (first
    | (go_at_call 16; (with_reducible refine hstar.mono ?_); rintro e w1 ⟨v, rfl, hr, hb⟩; have hboth := both_is hr star_sm (by decide) star_kept; have H1 := Lib.hid hb; clear hr hb hstar)
    | (go_at_call 9; (with_reducible refine hboth.mono ?_); rintro e w2 ⟨S, p, n, c, rfl, hn, hK⟩; have K2 := Lib.hid (hK.mono H1.out); clear hn hK hboth))
  have hc1 := pathCol_is (K2.out.on (below_alloc w2 (.cells #[.string sShop, .string sLand, .string sName] 9))).sch (Wd.lits (l := [sShop, sLand, sName]) (n := 3) (heap_alloc_new w2 _) rfl (by decide)) col_1
  go_upto_region 3 with (go_at_call 45; (with_reducible refine hc1.mono ?_); rintro e x1 ⟨rfl, hb⟩)
  have hbb := below_on (below_alloc w2 (.cells #[.string sShop, .string sLand, .string sName] 9)) hb
  have hx := heap_alloc_new x1 (.cells #[.string sName, .int .i64 2, .bool false, .string e0] 54)
  have hb2 := below_on hbb (below_alloc x1 (.cells #[.string sName, .int .i64 2, .bool false, .string e0] 54))
  obtain ⟨B1, hB⟩ : ∃ b, x1.heap.size = b := ⟨_, rfl⟩
  obtain ⟨w3, hw⟩ : ∃ y, x1.alloc (.cells #[.string sName, .int .i64 2, .bool false, .string e0] 54) = y := ⟨_, rfl⟩
  have K3 := Lib.hid (K2.out.on hb2)
  have HX3 := Lib.hid hx
  rw [hw, hB] at HX3
  rw [hw] at K3
  rw [hw, hB]
  clear hc1 hb hbb hx hb2 hB hw
  have hc2 := pathCol_is (K3.out.on (below_alloc w3 (.cells #[.string sN, .string bX] 9))).sch (Wd.lits (l := [sN, bX]) (n := 2) (heap_alloc_new w3 _) rfl (by decide)) col_2
  go_upto_region 4 with (go_at_call 45; (with_reducible refine hc2.mono ?_); rintro e x2 ⟨rfl, hb⟩)
  have hbb := below_on (below_alloc w3 (.cells #[.string sN, .string bX] 9)) hb
  have hx := heap_alloc_new x2 (.cells #[.string e0, .int .i64 0, .bool false, .string e0] 54)
  have hb2 := below_on hbb (below_alloc x2 (.cells #[.string e0, .int .i64 0, .bool false, .string e0] 54))
  obtain ⟨B2, hB⟩ : ∃ b, x2.heap.size = b := ⟨_, rfl⟩
  obtain ⟨w4, hw⟩ : ∃ y, x2.alloc (.cells #[.string e0, .int .i64 0, .bool false, .string e0] 54) = y := ⟨_, rfl⟩
  have K4 := Lib.hid (K3.out.on hb2)
  have HX4 := Lib.hid (heap_on hb2 HX3.out)
  rw [hw] at HX4
  rw [hw] at K4
  rw [hw, hB]
  clear hc2 hb hbb hx hb2 hB hw
  have hc3 := pathCol_is (K4.out.on (below_alloc w4 (.cells #[.string bX] 9))).sch (Wd.lits (l := [bX]) (n := 1) (heap_alloc_new w4 _) rfl (by decide)) col_3
  go_upto_region 5 with (go_at_call 45; (with_reducible refine hc3.mono ?_); rintro e x3 ⟨rfl, hb⟩)
  have hbb := below_on (below_alloc w4 (.cells #[.string bX] 9)) hb
  have hx := heap_alloc_new x3 (.cells #[.string e0, .int .i64 0, .bool false, .string e0] 54)
  have hb2 := below_on hbb (below_alloc x3 (.cells #[.string e0, .int .i64 0, .bool false, .string e0] 54))
  obtain ⟨B3, hB⟩ : ∃ b, x3.heap.size = b := ⟨_, rfl⟩
  obtain ⟨w5, hw⟩ : ∃ y, x3.alloc (.cells #[.string e0, .int .i64 0, .bool false, .string e0] 54) = y := ⟨_, rfl⟩
  have K5 := Lib.hid (K4.out.on hb2)
  have HX5 := Lib.hid (heap_on hb2 HX4.out)
  rw [hw] at HX5
  rw [hw] at K5
  rw [hw, hB]
  clear hc3 hb hbb hx hb2 hB hw
  have hc4 := pathCol_is K5.out.sch (Wd.nil w5) col_4
  go_upto_region 6 with (go_at_call 45; (with_reducible refine hc4.mono ?_); rintro e x4 ⟨rfl, hb⟩)
  have hbb := hb
  have hx := heap_alloc_new x4 (.cells #[.string e0, .int .i64 0, .bool false, .string e0] 54)
  have hb2 := below_on hbb (below_alloc x4 (.cells #[.string e0, .int .i64 0, .bool false, .string e0] 54))
  obtain ⟨B4, hB⟩ : ∃ b, x4.heap.size = b := ⟨_, rfl⟩
  obtain ⟨w6, hw⟩ : ∃ y, x4.alloc (.cells #[.string e0, .int .i64 0, .bool false, .string e0] 54) = y := ⟨_, rfl⟩
  have K6 := Lib.hid (K5.out.on hb2)
  have HX6 := Lib.hid (heap_on hb2 HX5.out)
  rw [hw] at HX6
  rw [hw] at K6
  rw [hw, hB]
  clear hc4 hb hbb hx hb2 hB hw
  have hall := pall_any (tb := sShop) star_few star_nice K6.out.sch
  go_upto_region 7 with (go_at_call 30; (with_reducible refine hall.mono ?_); rintro e w7 ⟨pa, ma, ca, vs, qs, rfl, hm, hA, hP, hb⟩)
  obtain rfl : qs = shopAll := hA.one shop_all
  obtain rfl : ma = 6 := hm
  have hx7 := heap_on hb HX6.out
  have K7 := Lib.hid (K6.out.on hb)
  obtain ⟨ga, ca', e1, _, _⟩ := hP.row.slice (by decide)
  obtain ⟨rfl, -, e2⟩ := Value.slice.inj e1
  have hvl := hP.n
  have h3 : 3 < vs.length := by rw [hvl]; decide
  have hc3 := HRow.cell (j := 3) hP.row (List.getElem?_eq_getElem h3)
  have hu := hP.each 3 h3 (by decide)
  have e3 : shopAll[3]'(by decide) = [sLand, sId] := rfl
  rw [e3] at hu
  obtain ⟨u, huu⟩ : ∃ u, vs[3] = u := ⟨_, rfl⟩
  rw [huu] at hc3 hu
  obtain ⟨pu, cu, rfl, _, _⟩ := hu.slice
  have hc3 : w7.cell? ⟨ga, 3, none⟩ = some (.slice pu 2 cu) := hc3
  have hu : Wd w7 (.slice pu 2 cu) [sLand, sId] := hu
  have hgl := (hP.row.lt ga rfl).2
  have hbeg := begun23_any w7
  have H7 := Lib.hid (And.intro hx7 (And.intro hc3 (And.intro hu hgl)))
  clear hA hP hb hx7 e1 e2 hvl h3 hc3 hu e3 huu hgl hall
  go_wp2_with (first
    | (go_at_call 54; (with_reducible refine hbeg.mono ?_); rintro e w8 ⟨rfl, hb8⟩; have K8 := Lib.hid (K7.out.on hb8); have z0 := nd_cell (heap_on hb8 H7.out.1) 0; have zl := lt_of_heap (heap_on hb8 H7.out.1); have z3 := bel_cell hb8 H7.out.2.1; have zg := Nat.lt_of_lt_of_le H7.out.2.2.2 hb8.size; have htx := text_any (H7.out.2.2.1.later hb8) short_1; rw [text_1] at htx; clear hbeg hb8)
    | (go_at_call 55; (with_reducible refine htx.mono ?_); rintro e w9 ⟨rfl, hb9⟩; have K9 := Lib.hid (K8.out.on hb9); have hcp := two_ways w9; clear htx hb9 z0 zl z3 zg)
    | (go_at_call 34; (with_reducible refine hcp.mono ?_); rintro e w10 ⟨rfl, hb10⟩; have K10 := Lib.hid (K9.out.on hb10); clear hcp hb10))
  go_ret
  exact ⟨rfl, K10.out.below⟩
end Go.Proofs.YtmfkkpogmmoflaaGreat
namespace Go.Proofs.YtmfkkpogmmoflaaGreat
open Go Go.RowKit Go.Proofs

theorem path_is {l : List ByteArray} {v : Value} {W : World} (h : InS W v l) : Calls Tryz.prog 8 #[v] W fun e w' => ∃ p n c, e = .returned (.slice p n c) ∧ n = (pathP l).length ∧ Wd w' (.slice p n c) (pathP l) ∧ Below W.heap.size W w' :=
  (path_any h).mono fun _ _ ⟨p, n, c, h1, h2, h3, h4⟩ => ⟨p, n, c, h1, h2, h3.wd, h4⟩
theorem pathP_short (l : List ByteArray) : Short (pathP l) := ⟨pathP_len l, fun x hx => by
  unfold pathP at hx
  obtain ⟨y, _, rfl⟩ := List.mem_map.1 (List.mem_of_mem_take hx)
  exact Nat.le_trans (cutB_le 20 y) (by decide)⟩
theorem refCol_is {ts : List T} {pv v : Value} {tb : ByteArray} {p : List ByteArray} {W : World} {nm tg u : ByteArray} {kd er : Int} {mu : Bool} (h : RdTs W pv ts) (hp : Wd W v p) (hr : pcolL ts tb p = (⟨nm, kd, mu, tg⟩, u, er)) : Calls Tryz.prog 25 #[pv, .string tb, v] W fun e w' => e = .returned (.tuple #[.agg #[.string nm, .int .i64 kd, .bool mu, .string tg], .string u, .int .i64 er]) ∧ Below W.heap.size W w' := by
  have := refCol_any (tb := tb) h hp.rd
  rw [hr] at this
  exact this
theorem tables_is {l : List T} {v : Value} {W : World} (h : InTs W v l) : Calls Tryz.prog 6 #[v] W fun e w' => ∃ p n c, e = .returned (.slice p n c) ∧ n = ((l.map cutT).take 12).length ∧ RdTs w' (.slice p n c) ((l.map cutT).take 12) ∧ Below W.heap.size W w' :=
  (tables_any h).mono fun _ _ ⟨p, n, c, _, h1, h2, h3, h4⟩ => ⟨p, n, c, h1, h3, rd_row h2.row h2.tabs, h4⟩
end Go.Proofs.YtmfkkpogmmoflaaGreat
