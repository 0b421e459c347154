/- begun. -/
import Derived.Test.YtmfkkpogmmoflaaGreatHE
namespace Go.Proofs.YtmfkkpogmmoflaaGreat
open Go Go.RowKit Go.Proofs

theorem Chg.under {sb n : Nat} {A B : World} (h : Chg (fun b => b = sb) A B) (hn : n ≤ A.heap.size) (hb : n ≤ sb) : Below n A B := h.below hn (fun b hlt e => by omega)
theorem RdC.lit {w : World} {b : Nat} {l : List C} (h : w.heap[b]? = some (.cells (cellsC l).toArray 54)) (hl : l.length ≤ maxLen) : RdC w (.slice (some ⟨b, 0, none⟩) l.length l.length) l :=
  ⟨cellsC_len l, _, _, rfl, Nat.le_refl _, hl, fun a e => by cases e; rfl, fun _ => ⟨b, 0, _, _, _, rfl, h, by decide, by decide, fun j u hj => by rw [Nat.zero_add, List.getElem?_toArray]; exact hj⟩⟩
theorem RdD.none (w : World) : RdD w (.slice none 0 0) [] := (zeroT_rd w).2
/-- Add, of a table that is written out. -/
theorem add_is {t : T} {nm key : ByteArray} {cv dv : Value} {sb : Nat} {ts ts' : List T} {W : World} {r : Int} (hn : t.nm = nm) (hk : t.key = key) (h : RdT W cv dv t) (hs : Sch W sb ts) (hsm : Sm t) (hr : mayP ts t = r) (ha : addT ts t = ts') :
    Calls Tryz.prog 21 #[(Value.pointer (some ⟨sb, 0, none⟩)), .agg #[.string nm, cv, .string key, dv]] W fun e w' => e = .returned (.int .i64 r) ∧ Sch w' sb ts' ∧ Chg (fun b => b = sb) W w' := by
  subst hn hk hr ha
  exact add_any h hs hsm

abbrev bShop : ByteArray := ⟨#[115, 104, 111, 112]⟩
abbrev bId : ByteArray := ⟨#[105, 100]⟩
abbrev bCity : ByteArray := ⟨#[99, 105, 116, 121]⟩
abbrev bSale : ByteArray := ⟨#[115, 97, 108, 101]⟩
abbrev bBad : ByteArray := ⟨#[98, 97, 100]⟩
abbrev bN : ByteArray := ⟨#[110]⟩
abbrev bX : ByteArray := ⟨#[120]⟩
def tShop : T := ⟨bShop, [⟨bId, 1, false, e0⟩, ⟨bCity, 2, false, e0⟩], bId, []⟩
def tSale : T := ⟨bSale, [⟨bShop, 1, false, bShop⟩, ⟨bN, 1, false, e0⟩], e0, []⟩
def tBad : T := ⟨bBad, [⟨bX, 2, false, bShop⟩], e0, []⟩
def kShop : T := ⟨bShop, [⟨bId, 1, true, e0⟩, ⟨bCity, 2, false, e0⟩], bId, []⟩
theorem may_shop : mayP [] tShop = 0 := by decide +kernel
theorem may_sale : mayP [kShop] tSale = 0 := by decide +kernel
theorem may_bad : mayP [kShop, tSale] tBad = 4 := by decide +kernel
theorem add_shop : addT [] tShop = [kShop] := by unfold addT; rw [if_pos may_shop]; rfl
theorem add_sale : addT [kShop] tSale = [kShop, tSale] := by unfold addT; rw [if_pos may_sale]; rfl
theorem add_bad : addT [kShop, tSale] tBad = [kShop, tSale] := by unfold addT; rw [if_neg (by rw [may_bad]; decide)]
theorem small_of {t : T} (h : t.nm.size ≤ 20) (hc : t.cols.all (fun c => decide (c.nm.size ≤ 20)) = true) : Sm t := by
  refine ⟨Nat.le_trans h (by decide), fun c hcm => ?_⟩
  rw [List.all_eq_true] at hc
  exact Nat.le_trans (of_decide_eq_true (hc c hcm)) (by decide)
theorem sm_shop : Sm tShop := small_of (by decide) (by decide)
theorem sm_sale : Sm tSale := small_of (by decide) (by decide)
theorem sm_bad : Sm tBad := small_of (by decide) (by decide)
theorem two_few : AllFew [kShop, tSale] := by
  intro t ht
  simp only [List.mem_cons, List.not_mem_nil, or_false] at ht
  rcases ht with rfl | rfl
  · exact ⟨by decide, by decide, fun d h => by simp [kShop] at h⟩
  · exact ⟨by decide, by decide, fun d h => by simp [tSale] at h⟩
theorem find_shop : findT [kShop, tSale] bShop = some kShop := rfl
theorem find_bad : findT [kShop, tSale] bBad = none := rfl
theorem find_sale : findT [kShop, tSale] bSale = some tSale := rfl
theorem find_is {pv : Value} {ts : List T} {x : ByteArray} {W : World} {t : T} {nm key : ByteArray} {ok : Bool} (h : SchP W pv ts) (hf : AllFew ts) (ht : orT (findT ts x) = t) (ho : hasT ts x = ok) (hn : t.nm = nm) (hk : t.key = key) : Calls Tryz.prog 46 #[pv, .string x] W fun e w' => ∃ p1 n1 c1 p2 n2 c2, e = .returned (.tuple #[.agg #[.string nm, .slice p1 n1 c1, .string key, .slice p2 n2 c2], .bool ok]) ∧ RdT w' (.slice p1 n1 c1) (.slice p2 n2 c2) t ∧ Below W.heap.size W w' := by
  subst hn hk ht ho
  exact sFind_any h hf
theorem col_is {pv : Value} {ts : List T} {x c : ByteArray} {W : World} {nm tg : ByteArray} {kd : Int} {mu ok : Bool} (h : SchP W pv ts) (hk : orC (colOf (orT (findT ts x)).cols c) = ⟨nm, kd, mu, tg⟩) (ho : hasC (orT (findT ts x)).cols c = ok) : Calls Tryz.prog 67 #[pv, .string x, .string c] W fun e w' => e = .returned (.tuple #[.agg #[.string nm, .int .i64 kd, .bool mu, .string tg], .bool ok]) ∧ Below W.heap.size W w' := by
  have := sCol_any (x := x) (c := c) h
  rw [hk, ho] at this
  exact this

set_option maxRecDepth 100000 in
set_option maxHeartbeats 4000000 in
theorem begun_any (W : World) : Calls Tryz.prog 81 #[] W fun e w' => e = .returned (.bool true) ∧ Below W.heap.size W w' := by
  obtain ⟨S, hS⟩ : ∃ S, W.heap.size = S := ⟨_, rfl⟩
  have hnew := new_any W
  rw [hS] at hnew ⊢
  have HS := Lib.hid hS
  clear hS
  go_enter Tryz.func81, Tryz.ntmps81
  go_wp2_with fail
  refine hnew.mono ?_
  rintro e w1 ⟨rfl, hs1, hb1⟩
  have hz1 : S ≤ w1.heap.size := by have := hb1.size; rw [HS.out] at this; exact this
  have H1 := Lib.hid (And.intro hs1 (And.intro hb1 hz1))
  clear hs1 hb1 hz1 hnew
  have step : ∀ {a b : World} {o : Obj}, Below S W a ∧ S ≤ a.heap.size → Chg (fun x => x = S) (a.alloc o) b → Below S W b ∧ S ≤ b.heap.size := fun {a b o} h hc => by
    have h1 := hc.under (n := S) (by rw [World.size_alloc]; omega) (Nat.le_refl _)
    exact ⟨(h.1.alloc h.2 o).trans h1, Nat.le_trans h.2 (Nat.le_trans (by rw [World.size_alloc]; omega) hc.size)⟩
  have stepB : ∀ {a b : World}, Below S W a ∧ S ≤ a.heap.size → Below a.heap.size a b → Below S W b ∧ S ≤ b.heap.size := fun {a b} h hb => ⟨h.1.trans (hb.mono h.2), Nat.le_trans h.2 hb.size⟩
  go_wp2_with fail
  refine (add_is (t := tShop) rfl rfl ⟨RdC.lit (l := tShop.cols) (heap_alloc_new w1 _) (by decide), RdD.none _⟩ (H1.out.1.later (below_alloc w1 _)) sm_shop may_shop add_shop).mono ?_
  rintro e w2 ⟨rfl, hs2, hc2⟩
  have H2 := Lib.hid (And.intro hs2 (step H1.out.2 hc2))
  clear hs2 hc2
  go_wp2_with fail
  refine (add_is (t := tSale) rfl rfl ⟨RdC.lit (l := tSale.cols) (heap_alloc_new w2 _) (by decide), RdD.none _⟩ (H2.out.1.later (below_alloc w2 _)) sm_sale may_sale add_sale).mono ?_
  rintro e w3 ⟨rfl, hs3, hc3⟩
  have H3 := Lib.hid (And.intro hs3 (step H2.out.2 hc3))
  clear hs3 hc3
  go_wp2_with fail
  refine (add_is (t := tBad) rfl rfl ⟨RdC.lit (l := tBad.cols) (heap_alloc_new w3 _) (by decide), RdD.none _⟩ (H3.out.1.later (below_alloc w3 _)) sm_bad may_bad add_bad).mono ?_
  rintro e w4 ⟨rfl, hs4, hc4⟩
  have H4 := Lib.hid (And.intro hs4 (step H3.out.2 hc4))
  clear hs4 hc4 step
  go_wp2_with fail
  refine (find_is (t := kShop) (nm := bShop) (key := bId) (ok := true) H4.out.1.p two_few rfl rfl rfl rfl).mono ?_
  rintro e w5 ⟨p1, n1, c1, p2, n2, c2, rfl, hr5, hb5⟩
  have hn1 : n1 = 2 := by
    obtain ⟨_, _, e1, _⟩ := hr5.1.slice
    exact (Value.slice.inj e1).2.1
  subst hn1
  have H5 := Lib.hid (And.intro (H4.out.1.later hb5) (And.intro hr5.1 (stepB H4.out.2 hb5)))
  clear hr5 hb5
  go_upto_region 8 with fail
  have hx5 := heap_alloc_new w5 (boxT bShop (.slice p1 2 c1) bId (.slice p2 n2 c2))
  have hb5 := below_alloc w5 (boxT bShop (.slice p1 2 c1) bId (.slice p2 n2 c2))
  obtain ⟨B5, hB5⟩ : ∃ B5, w5.heap.size = B5 := ⟨_, rfl⟩
  obtain ⟨x5, hw5⟩ : ∃ x5, w5.alloc (boxT bShop (.slice p1 2 c1) bId (.slice p2 n2 c2)) = x5 := ⟨_, rfl⟩
  have K5 := Lib.hid (And.intro (H5.out.1.later hb5) (And.intro (H5.out.2.1.later hb5) (And.intro (stepB H5.out.2.2 hb5) hx5)))
  rw [hw5, hB5] at K5 ⊢
  clear hx5 hb5 hB5 hw5
  go_wp2_with fail
  refine (col_is (nm := bShop) (kd := 1) (mu := false) (tg := bShop) (ok := true) K5.out.1.p rfl rfl).mono ?_
  rintro e w6 ⟨rfl, hb6⟩
  have H6 := Lib.hid (And.intro (K5.out.1.later hb6) (And.intro (K5.out.2.1.later hb6) (And.intro (stepB K5.out.2.2.1 hb6) (heap_on hb6 K5.out.2.2.2))))
  clear hb6
  go_upto_region 9 with fail
  have hx6 := heap_alloc_new w6 (.cells #[.string bShop, .int .i64 1, .bool false, .string bShop] 54)
  have hb6 := below_alloc w6 (.cells #[.string bShop, .int .i64 1, .bool false, .string bShop] 54)
  obtain ⟨B6, hB6⟩ : ∃ B6, w6.heap.size = B6 := ⟨_, rfl⟩
  obtain ⟨x6, hw6⟩ : ∃ x6, w6.alloc (.cells #[.string bShop, .int .i64 1, .bool false, .string bShop] 54) = x6 := ⟨_, rfl⟩
  have K6 := Lib.hid (And.intro (H6.out.1.later hb6) (And.intro (H6.out.2.1.later hb6) (And.intro (stepB H6.out.2.2.1 hb6) (And.intro (heap_on hb6 H6.out.2.2.2) hx6))))
  rw [hw6, hB6] at K6 ⊢
  clear hx6 hb6 hB6 hw6
  go_wp2_with fail
  refine (find_is (t := zeroT) (nm := e0) (key := e0) (ok := false) K6.out.1.p two_few rfl rfl rfl rfl).mono ?_
  rintro e w7 ⟨q1, m1, d1, q2, m2, d2, rfl, hr7, hb7⟩
  have H7 := Lib.hid (And.intro (K6.out.1.later hb7) (And.intro (K6.out.2.1.later hb7) (And.intro (stepB K6.out.2.2.1 hb7) (And.intro (heap_on hb7 K6.out.2.2.2.1) (heap_on hb7 K6.out.2.2.2.2)))))
  clear hr7 hb7
  go_upto_region 10 with fail
  have hb8 := below_alloc w7 (boxT e0 (.slice q1 m1 d1) e0 (.slice q2 m2 d2))
  obtain ⟨x7, hw7⟩ : ∃ x7, w7.alloc (boxT e0 (.slice q1 m1 d1) e0 (.slice q2 m2 d2)) = x7 := ⟨_, rfl⟩
  have K7 := Lib.hid (And.intro (H7.out.1.later hb8) (And.intro (H7.out.2.1.later hb8) (And.intro (stepB H7.out.2.2.1 hb8) (And.intro (heap_on hb8 H7.out.2.2.2.1) (heap_on hb8 H7.out.2.2.2.2)))))
  rw [hw7] at K7 ⊢
  clear hb8 hw7
  have b0 := nd_cell K7.out.2.2.2.1 1
  have b1 := lt_of_heap K7.out.2.2.2.1
  have b2 := nd_cell K7.out.2.2.2.2 3
  have b3 := lt_of_heap K7.out.2.2.2.2
  obtain ⟨b, off, rfl, hbl, _, _, g2, _⟩ := RdC.col K7.out.2.1 (i := 0) (by decide)
  obtain ⟨_, _, e1, _, _, _, g6, _⟩ := RdC.col K7.out.2.1 (i := 1) (by decide)
  cases e1
  have g2 : x7.cell? ⟨b, off + 0 * 4 + 2, none⟩ = some (.bool true) := g2
  have g6 : x7.cell? ⟨b, off + 1 * 4 + 2, none⟩ = some (.bool false) := g6
  rw [Nat.zero_mul, Nat.add_zero] at g2
  rw [Nat.one_mul] at g6
  have hn1 := sNames_any K7.out.1.p (by decide)
  go_wp2_with fail
  refine hn1.mono ?_
  rintro e w8 ⟨v8, rfl, hr8, hb8⟩
  have hr8 : HRow w8 x7.heap.size 9 1 v8 2 (cellsS [bShop, bSale]) := hr8
  obtain ⟨g8, cp8, rfl, _, _⟩ := hr8.slice (by decide)
  have hn2 := sNames_any (K7.out.1.later hb8).p (by decide)
  have K8 := Lib.hid (stepB K7.out.2.2.1 hb8)
  clear hr8 hb8 hn1
  go_wp2_with fail
  refine hn2.mono ?_
  rintro e w9 ⟨v9, rfl, hr9, hb9⟩
  have hr9 : HRow w9 w8.heap.size 9 1 v9 2 (cellsS [bShop, bSale]) := hr9
  obtain ⟨g9, cp9, rfl, _, _⟩ := hr9.slice (by decide)
  have k1 : w9.cell? ⟨g9, 1, none⟩ = some (.string bSale) := hr9.cell (j := 1) rfl
  have kl := (hr9.lt g9 rfl).2
  have K9 := Lib.hid (stepB K8.out hb9)
  clear hr9 hb9 hn2
  go_wp2_with fail
  go_ret
  exact ⟨rfl, HS.out ▸ K9.out.1⟩
end Go.Proofs.YtmfkkpogmmoflaaGreat
