/- Ways written out; begun. -/
import Derived.Test.YtmfkkpogmmoflaaGreatVH
import Derived.Test.YtmfkkpogmmoflaaGreatPL
namespace Go.Proofs.YtmfkkpogmmoflaaGreat
open Go Go.RowKit Go.Proofs

theorem RdW.lit {W : World} {b : Nat} {u : Value} {p : List ByteArray} (hb : W.heap[b]? = some (.cells #[u] 25)) (hu : Wd W u p) : RdW W (.slice (some ⟨b, 0, none⟩) 1 1) [p] [u] where
  sl := ⟨_, 1, rfl, Nat.le_refl _, by decide⟩
  n := rfl
  cell := fun j hj => by
    have : j = 0 := by simp at hj; omega
    subst this
    exact ⟨b, 0, 1, 1, rfl, lt_of_heap hb, by rw [nd_cell hb]; rfl⟩
  each := fun j hj _ => by
    have : j = 0 := by simp at hj; omega
    subst this
    exact hu
theorem RdW.nil (W : World) : RdW W (.slice none 0 0) [] [] := ⟨⟨none, 0, rfl, Nat.le_refl _, Nat.zero_le _⟩, rfl, fun _ h => absurd h (Nat.not_lt_zero _), fun _ h => absurd h (Nat.not_lt_zero _)⟩
section
variable {ts : List T} {pv : Value} {tb : ByteArray} {p q : List ByteArray} {r : Bool} {ca cb : Array Value} {n m : Nat} {w : World}
/-- Determines, of one way that is written out and another. -/
theorem det_lit (hF : AllFew ts) (hN : Fine ts) (hs : SchP w pv ts) (hca : ca = (cellsS p).toArray) (hn : p.length = n) (hn1 : n ≤ 1000) (hcb : cb = (cellsS q).toArray) (hm : q.length = m) (hm1 : m ≤ 1000) (hr : r = true ↔ Cl ts tb (· ∈ [p]) q) :
    Calls Tryz.prog 14 #[pv, .string tb, .slice (some ⟨w.heap.size + 1, 0, none⟩) 1 1, .slice (some ⟨w.heap.size + 1 + 1, 0, none⟩) m m] (((w.alloc (.cells ca 9)).alloc (.cells #[.slice (some ⟨w.heap.size, 0, none⟩) n n] 25)).alloc (.cells cb 9)) fun e w' => e = .returned (.bool r) ∧ Below w.heap.size w w' := by
  subst hca hcb
  have b1 := below_alloc w (.cells (cellsS p).toArray 9)
  have b2 := below_alloc (w.alloc (.cells (cellsS p).toArray 9)) (.cells #[.slice (some ⟨w.heap.size, 0, none⟩) n n] 25)
  have b3 := below_alloc ((w.alloc (.cells (cellsS p).toArray 9)).alloc (.cells #[.slice (some ⟨w.heap.size, 0, none⟩) n n] 25)) (.cells (cellsS q).toArray 9)
  have k1 := heap_alloc_new w (.cells (cellsS p).toArray 9)
  have k2 := heap_alloc_new (w.alloc (.cells (cellsS p).toArray 9)) (.cells #[.slice (some ⟨w.heap.size, 0, none⟩) n n] 25)
  have k3 := heap_alloc_new ((w.alloc (.cells (cellsS p).toArray 9)).alloc (.cells #[.slice (some ⟨w.heap.size, 0, none⟩) n n] 25)) (.cells (cellsS q).toArray 9)
  rw [World.size_alloc] at k2
  rw [World.size_alloc, World.size_alloc] at k3
  have hb := below_on (below_on b1 b2) b3
  exact (kdet_any hF hN (hs.later hb) (RdW.lit (heap_on b3 k2) ((Wd.lits k1 hn hn1).later (below_on b2 b3))) (Wd.lits k3 hm hm1) hr).mono fun e w' ⟨h1, h2⟩ => ⟨h1, below_on hb h2⟩
/-- Closure: how many. -/
theorem clos_len {fv : Value} {ps qs : List (List ByteArray)} {fvs : List Value} (hF : AllFew ts) (hN : Fine ts) (hs : SchP w pv ts) (hA : IsAll ts tb qs) (hfr : RdW w fv ps fvs) (hl : (closW ts tb qs ps).length = n) : Calls Tryz.prog 13 #[pv, .string tb, fv] w fun e w' => ∃ p c, e = .returned (.slice p n c) ∧ Below w.heap.size w w' :=
  (kclos_any hF hN hs hfr).mono fun e w' ⟨p, m, c, vs, ls, h1, h2, _, h3, _, h5⟩ => ⟨p, c, by rw [h1, h2, ← hl, (h3.perm hN (hA.ok hN.nice)).length_eq], h5⟩
/-- Of one way that is written out. -/
theorem clos_lit {qs : List (List ByteArray)} (hF : AllFew ts) (hN : Fine ts) (hs : SchP w pv ts) (hA : IsAll ts tb qs) (hca : ca = (cellsS p).toArray) (hn : p.length = n) (hn1 : n ≤ 1000) (hl : (closW ts tb qs [p]).length = m) :
    Calls Tryz.prog 13 #[pv, .string tb, .slice (some ⟨w.heap.size + 1, 0, none⟩) 1 1] ((w.alloc (.cells ca 9)).alloc (.cells #[.slice (some ⟨w.heap.size, 0, none⟩) n n] 25)) fun e w' => ∃ p c, e = .returned (.slice p m c) ∧ Below w.heap.size w w' := by
  subst hca
  have b1 := below_alloc w (.cells (cellsS p).toArray 9)
  have b2 := below_alloc (w.alloc (.cells (cellsS p).toArray 9)) (.cells #[.slice (some ⟨w.heap.size, 0, none⟩) n n] 25)
  have k1 := heap_alloc_new w (.cells (cellsS p).toArray 9)
  have k2 := heap_alloc_new (w.alloc (.cells (cellsS p).toArray 9)) (.cells #[.slice (some ⟨w.heap.size, 0, none⟩) n n] 25)
  rw [World.size_alloc] at k2
  have hb := below_on b1 b2
  exact (clos_len hF hN (hs.later hb) hA (RdW.lit k2 ((Wd.lits k1 hn hn1).later b2)) hl).mono fun e w' ⟨p, c, h1, h2⟩ => ⟨p, c, h1, below_on hb h2⟩
/-- What is reckoned tells what the rules give. -/
theorem cl_by {qs ps : List (List ByteArray)} (hN : Fine ts) (hA : IsAll ts tb qs) (h : inP (closW ts tb qs ps) q = r) : r = true ↔ Cl ts tb (· ∈ ps) q := by
  rw [← h, inP_iff]
  exact (closW_iff hN (hA.ok hN.nice)).2 q
end
theorem star_fine : Fine starK := star_kept ▸ Fine.kept Fine.nil
def saleAll : List (List ByteArray) := [[sDay], [sDay, sD], [sDay, sMonth], [sDay, sYear], [sN], [sShop], [sShop, sCity], [sShop, sId], [sShop, sLand], [sShop, sLand, sId], [sShop, sLand, sName], [sShop, sZone], [sTag]]
theorem sale_all : IsAll starK sSale saleAll := ⟨by decide +kernel, by decide +kernel⟩
def landAll : List (List ByteArray) := [[sId], [sName]]
theorem land_all : IsAll starK sLand landAll := ⟨by decide +kernel, by decide +kernel⟩
theorem det_1 : true = true ↔ Cl starK sSale (· ∈ [[sShop, sCity]]) [sShop, sZone] := cl_by star_fine sale_all (by decide +kernel)
theorem det_2 : false = true ↔ Cl starK sSale (· ∈ [[sShop, sZone]]) [sShop, sCity] := cl_by star_fine sale_all (by decide +kernel)
theorem det_3 : true = true ↔ Cl starK sSale (· ∈ [[sShop, sId]]) [sShop, sLand, sName] := cl_by star_fine sale_all (by decide +kernel)
theorem len_1 : (closW starK sSale saleAll []).length = 0 := by decide +kernel
theorem len_2 : (closW starK sLand landAll [[sId]]).length = 2 := by decide +kernel
theorem begun14_any (W : World) : Calls Tryz.prog 17 #[] W fun e w' => e = .returned (.bool true) ∧ Below W.heap.size W w' := by
  go_enter Tryz.func17, Tryz.ntmps17
  go_wp2_with (go_at_call 36; (with_reducible refine (pbegun_any _).mono ?_); rintro e w1 ⟨rfl, hb⟩)
  go_ret
  exact ⟨rfl, hb⟩
set_option maxRecDepth 100000 in
set_option maxHeartbeats 4000000 in
theorem dbegun_any (W : World) : Calls Tryz.prog 5 #[] W fun e w' => e = .returned (.bool true) ∧ Below W.heap.size W w' := by
  have hstar := star_any W
  go_enter Tryz.func5, Tryz.ntmps5
  go_upto_region 2 with (first
    | (go_at_call 16; (with_reducible refine hstar.mono ?_); rintro e w1 ⟨v, rfl, hr, hb⟩; have hboth := both_is hr star_sm (by decide) star_kept; have H1 := Lib.hid hb; clear hr hb hstar)
    | (go_at_call 9; (with_reducible refine hboth.mono ?_); rintro e w2 ⟨S, p, n, c, rfl, hn, hK⟩; have K2 := Lib.hid (hK.mono H1.out); clear hn hK hboth))
  have h2 := det_lit (ca := #[.string sShop, .string sCity]) (cb := #[.string sShop, .string sZone]) (n := 2) (m := 2) star_few star_fine K2.out.sch rfl rfl (by decide) rfl rfl (by decide) det_1
  go_upto_region 3 with (go_at_call 14; (with_reducible refine h2.mono ?_); rintro e w3 ⟨rfl, hb⟩; have K3 := Lib.hid (K2.out.on hb); clear hb h2)
  have h3 := det_lit (ca := #[.string sShop, .string sZone]) (cb := #[.string sShop, .string sCity]) (n := 2) (m := 2) star_few star_fine K3.out.sch rfl rfl (by decide) rfl rfl (by decide) det_2
  go_upto_region 4 with (go_at_call 14; (with_reducible refine h3.mono ?_); rintro e w4 ⟨rfl, hb⟩; have K4 := Lib.hid (K3.out.on hb); clear hb h3)
  have h4 := det_lit (ca := #[.string sShop, .string sId]) (cb := #[.string sShop, .string sLand, .string sName]) (n := 2) (m := 3) star_few star_fine K4.out.sch rfl rfl (by decide) rfl rfl (by decide) det_3
  go_upto_region 5 with (go_at_call 14; (with_reducible refine h4.mono ?_); rintro e w5 ⟨rfl, hb⟩; have K5 := Lib.hid (K4.out.on hb); clear hb h4)
  go_wp2_with (first
    | (go_at_call 17; (with_reducible refine (begun14_any _).mono ?_); rintro e w6 ⟨rfl, hb⟩; have K6 := Lib.hid (K5.out.on hb); have h6 := clos_len star_few star_fine K6.out.sch sale_all (RdW.nil w6) len_1; clear hb)
    | (go_at_call 13; (with_reducible refine h6.mono ?_); rintro e w7 ⟨p7, c7, rfl, hb⟩; have K7 := Lib.hid (K6.out.on hb); have h7 := clos_lit (ca := #[.string sId]) (n := 1) star_few star_fine K7.out.sch land_all rfl rfl (by decide) len_2; clear hb h6)
    | (go_at_call 13; (with_reducible refine h7.mono ?_); rintro e w8 ⟨p8, c8, rfl, hb⟩; have K8 := Lib.hid (K7.out.on hb); clear hb h7))
  go_ret
  exact ⟨rfl, K8.out.below⟩
end Go.Proofs.YtmfkkpogmmoflaaGreat
