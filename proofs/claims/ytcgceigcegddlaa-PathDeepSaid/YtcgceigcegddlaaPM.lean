/- begun. -/
import Derived.Test.YtcgceigcegddlaaPL
import Derived.Test.YtcgceigcegddlaaPF
namespace Go.Proofs.Ytcgceigcegddlaa
open Go Go.RowKit Go.Proofs

/-- Words that are written out. -/
theorem Wd.lits {W : World} {b n : Nat} {l : List ByteArray} (h : W.heap[b]? = some (.cells (cellsS l).toArray 9)) (hn : l.length = n) (hm : n ≤ 1000) : Wd W (.slice (some ⟨b, 0, none⟩) n n) l := by
  subst hn
  exact ⟨_, _, rfl, Nat.le_refl _, by unfold maxLen; omega, fun a h => (by cases h; rfl), fun _ => ⟨b, 0, _, _, rfl, h, fun j hj => by
    rw [Nat.zero_add, List.getElem?_toArray]
    unfold cellsS
    rw [List.getElem?_map, List.getElem?_eq_getElem hj]; rfl⟩⟩
/-- Both, and what is kept of it. -/
structure BothI (S : Nat) (W : World) (ks : List T) (v : Value) (w : World) : Prop where
  sch : SchP w (Value.pointer (some ⟨S, 0, none⟩)) ks
  rd : RdTs w v ks
  below : Below W.heap.size W w
section
variable {S : Nat} {W w w' : World} {ks : List T} {v : Value}
theorem BothI.on (h : BothI S W ks v w) (hb : Below w.heap.size w w') : BothI S W ks v w' := ⟨h.sch.later hb, h.rd.later hb, below_on h.below hb⟩
theorem BothI.mono {W0 : World} (h : BothI S W ks v w) (hb : Below W0.heap.size W0 W) : BothI S W0 ks v w := ⟨h.sch, h.rd, below_on hb h.below⟩
end
theorem both_is {us ks : List T} {v : Value} {W : World} (h : RdTs W v us) (hsm : ∀ t ∈ us, Sm t) (hl : us.length ≤ 1000) (hk : kept us us.length = ks) : Calls Try.prog 10 #[v] W fun e w' => ∃ S p n c, e = .returned (.tuple #[(Value.pointer (some ⟨S, 0, none⟩)), .slice p n c]) ∧ n = ks.length ∧ BothI S W ks (.slice p n c) w' := by
  subst hk
  exact (both_any h hsm hl).mono fun e w' ⟨S, p, n, c, xs, h1, h2, h3⟩ => ⟨S, p, n, c, h1, h2, ⟨.inr ⟨S, rfl, h3.st.sch⟩, h3.rd, h3.st.below⟩⟩
theorem pathCol_is {ts : List T} {pv v : Value} {tb : ByteArray} {p : List ByteArray} {W : World} {nm tg u : ByteArray} {kd er : Int} {mu : Bool} (h : SchP W pv ts) (hp : Wd W v p) (hr : pcolL ts tb p = (⟨nm, kd, mu, tg⟩, u, er)) : Calls Try.prog 12 #[pv, .string tb, v] W fun e w' => e = .returned (.tuple #[.agg #[.string nm, .int .i64 kd, .bool mu, .string tg], .string u, .int .i64 er]) ∧ Below W.heap.size W w' := by
  have := pathCol_any (tb := tb) h hp
  rw [hr] at this
  exact this
theorem star_few : AllFew starK := star_kept ▸ (kept_inv starT 4).2
theorem star_nice : Nice starK := star_kept ▸ kept_nice starT 4
def shopAll : List (List ByteArray) := [[sCity], [sId], [sLand], [sLand, sId], [sLand, sName], [sZone]]
theorem shop_all : IsAll starK sShop shopAll := ⟨by decide +kernel, by decide +kernel⟩
theorem two_ways (w : World) : Calls Try.prog 16 #[.slice (some ⟨w.heap.size, 0, none⟩) 1 1, .slice (some ⟨w.heap.size + 1, 0, none⟩) 2 2] ((w.alloc (.cells #[.string ⟨#[97]⟩] 9)).alloc (.cells #[.string ⟨#[97]⟩, .string ⟨#[98]⟩] 9)) fun e w' => e = .returned (.int .i64 (-1)) ∧ Below w.heap.size w w' := by
  have k2 := heap_alloc_new (w.alloc (.cells #[.string ⟨#[97]⟩] 9)) (.cells #[.string ⟨#[97]⟩, .string ⟨#[98]⟩] 9)
  rw [World.size_alloc] at k2
  refine (pcmp_any (a := [⟨#[97]⟩]) (b := [⟨#[97]⟩, ⟨#[98]⟩]) ((Wd.lits (l := [⟨#[97]⟩]) (n := 1) (heap_alloc_new w _) rfl (by decide)).later (below_alloc _ _)) (Wd.lits (l := [⟨#[97]⟩, ⟨#[98]⟩]) (n := 2) k2 rfl (by decide))).mono ?_
  rintro e w' ⟨rfl, rfl⟩
  exact ⟨rfl, below_on (below_alloc _ _) (below_alloc _ _)⟩
theorem col_1 : pcolL starK sSale [sShop, sLand, sName] = (⟨sName, 2, false, e0⟩, sLand, 0) := rfl
theorem col_2 : pcolL starK sSale [sN, bX] = (⟨e0, 0, false, e0⟩, e0, 9) := rfl
theorem col_3 : pcolL starK sSale [bX] = (⟨e0, 0, false, e0⟩, e0, 3) := rfl
theorem col_4 : pcolL starK sSale [] = (⟨e0, 0, false, e0⟩, e0, 5) := rfl
theorem text_1 : textP [sLand, sId] = ⟨#[108, 97, 110, 100, 46, 105, 100]⟩ := by decide +kernel
theorem short_1 : Short [sLand, sId] := by unfold Short; decide
set_option maxRecDepth 100000 in
set_option maxHeartbeats 4000000 in
theorem pbegun_any (W : World) : Calls Try.prog 8 #[] W fun e w' => e = .returned (.bool true) ∧ Below W.heap.size W w' := by
  have hstar := star_any W
  go_enter Try.func8, Try.ntmps8
  go_upto_region 2 with (first
    | (go_at_call 21; (with_reducible refine hstar.mono ?_); rintro e w1 ⟨v, rfl, hr, hb⟩; have hboth := both_is hr star_sm (by decide) star_kept; have H1 := Lib.hid hb; clear hr hb hstar)
    | (go_at_call 10; (with_reducible refine hboth.mono ?_); rintro e w2 ⟨S, p, n, c, rfl, hn, hK⟩; have K2 := Lib.hid (hK.mono H1.out); clear hn hK hboth))
  have hc1 := pathCol_is (K2.out.on (below_alloc w2 (.cells #[.string sShop, .string sLand, .string sName] 9))).sch (Wd.lits (l := [sShop, sLand, sName]) (n := 3) (heap_alloc_new w2 _) rfl (by decide)) col_1
  go_upto_region 3 with (go_at_call 12; (with_reducible refine hc1.mono ?_); rintro e x1 ⟨rfl, hb⟩)
  have hbb := below_on (below_alloc w2 (.cells #[.string sShop, .string sLand, .string sName] 9)) hb
  have hx := heap_alloc_new x1 (.cells #[.string sName, .int .i64 2, .bool false, .string e0] 33)
  have hb2 := below_on hbb (below_alloc x1 (.cells #[.string sName, .int .i64 2, .bool false, .string e0] 33))
  obtain ⟨B1, hB⟩ : ∃ b, x1.heap.size = b := ⟨_, rfl⟩
  obtain ⟨w3, hw⟩ : ∃ y, x1.alloc (.cells #[.string sName, .int .i64 2, .bool false, .string e0] 33) = y := ⟨_, rfl⟩
  have K3 := Lib.hid (K2.out.on hb2)
  have HX3 := Lib.hid hx
  rw [hw, hB] at HX3
  rw [hw] at K3
  rw [hw, hB]
  clear hc1 hb hbb hx hb2 hB hw
  have hc2 := pathCol_is (K3.out.on (below_alloc w3 (.cells #[.string sN, .string bX] 9))).sch (Wd.lits (l := [sN, bX]) (n := 2) (heap_alloc_new w3 _) rfl (by decide)) col_2
  go_upto_region 4 with (go_at_call 12; (with_reducible refine hc2.mono ?_); rintro e x2 ⟨rfl, hb⟩)
  have hbb := below_on (below_alloc w3 (.cells #[.string sN, .string bX] 9)) hb
  have hx := heap_alloc_new x2 (.cells #[.string e0, .int .i64 0, .bool false, .string e0] 33)
  have hb2 := below_on hbb (below_alloc x2 (.cells #[.string e0, .int .i64 0, .bool false, .string e0] 33))
  obtain ⟨B2, hB⟩ : ∃ b, x2.heap.size = b := ⟨_, rfl⟩
  obtain ⟨w4, hw⟩ : ∃ y, x2.alloc (.cells #[.string e0, .int .i64 0, .bool false, .string e0] 33) = y := ⟨_, rfl⟩
  have K4 := Lib.hid (K3.out.on hb2)
  have HX4 := Lib.hid (heap_on hb2 HX3.out)
  rw [hw] at HX4
  rw [hw] at K4
  rw [hw, hB]
  clear hc2 hb hbb hx hb2 hB hw
  have hc3 := pathCol_is (K4.out.on (below_alloc w4 (.cells #[.string bX] 9))).sch (Wd.lits (l := [bX]) (n := 1) (heap_alloc_new w4 _) rfl (by decide)) col_3
  go_upto_region 5 with (go_at_call 12; (with_reducible refine hc3.mono ?_); rintro e x3 ⟨rfl, hb⟩)
  have hbb := below_on (below_alloc w4 (.cells #[.string bX] 9)) hb
  have hx := heap_alloc_new x3 (.cells #[.string e0, .int .i64 0, .bool false, .string e0] 33)
  have hb2 := below_on hbb (below_alloc x3 (.cells #[.string e0, .int .i64 0, .bool false, .string e0] 33))
  obtain ⟨B3, hB⟩ : ∃ b, x3.heap.size = b := ⟨_, rfl⟩
  obtain ⟨w5, hw⟩ : ∃ y, x3.alloc (.cells #[.string e0, .int .i64 0, .bool false, .string e0] 33) = y := ⟨_, rfl⟩
  have K5 := Lib.hid (K4.out.on hb2)
  have HX5 := Lib.hid (heap_on hb2 HX4.out)
  rw [hw] at HX5
  rw [hw] at K5
  rw [hw, hB]
  clear hc3 hb hbb hx hb2 hB hw
  have hc4 := pathCol_is K5.out.sch (Wd.nil w5) col_4
  go_upto_region 6 with (go_at_call 12; (with_reducible refine hc4.mono ?_); rintro e x4 ⟨rfl, hb⟩)
  have hbb := hb
  have hx := heap_alloc_new x4 (.cells #[.string e0, .int .i64 0, .bool false, .string e0] 33)
  have hb2 := below_on hbb (below_alloc x4 (.cells #[.string e0, .int .i64 0, .bool false, .string e0] 33))
  obtain ⟨B4, hB⟩ : ∃ b, x4.heap.size = b := ⟨_, rfl⟩
  obtain ⟨w6, hw⟩ : ∃ y, x4.alloc (.cells #[.string e0, .int .i64 0, .bool false, .string e0] 33) = y := ⟨_, rfl⟩
  have K6 := Lib.hid (K5.out.on hb2)
  have HX6 := Lib.hid (heap_on hb2 HX5.out)
  rw [hw] at HX6
  rw [hw] at K6
  rw [hw, hB]
  clear hc4 hb hbb hx hb2 hB hw
  have hall := pall_any (tb := sShop) star_few star_nice K6.out.sch
  go_upto_region 7 with (go_at_call 19; (with_reducible refine hall.mono ?_); rintro e w7 ⟨pa, ma, ca, vs, qs, rfl, hm, hA, hP, hb⟩)
  obtain rfl : qs = shopAll := hA.one shop_all
  obtain rfl : ma = 6 := hm
  have hx7 := heap_on hb HX6.out
  have K7 := Lib.hid (K6.out.on hb)
  obtain ⟨ga, ca', e1, _, _⟩ := hP.row.slice (by decide)
  obtain ⟨rfl, -, e2⟩ := Value.slice.inj e1
  have hvl := hP.n
  have h3 : 3 < vs.length := by rw [hvl]; decide
  have hc3 := HRow.cell (j := 3) hP.row (List.getElem?_eq_getElem h3)
  have hu := hP.each 3 h3 (by decide)
  have e3 : shopAll[3]'(by decide) = [sLand, sId] := rfl
  rw [e3] at hu
  obtain ⟨u, huu⟩ : ∃ u, vs[3] = u := ⟨_, rfl⟩
  rw [huu] at hc3 hu
  obtain ⟨pu, cu, rfl, _, _⟩ := hu.slice
  have hc3 : w7.cell? ⟨ga, 3, none⟩ = some (.slice pu 2 cu) := hc3
  have hu : Wd w7 (.slice pu 2 cu) [sLand, sId] := hu
  have hgl := (hP.row.lt ga rfl).2
  have hbeg := begun23_any w7
  have H7 := Lib.hid (And.intro hx7 (And.intro hc3 (And.intro hu hgl)))
  clear hA hP hb hx7 e1 e2 hvl h3 hc3 hu e3 huu hgl hall
  go_wp2_with (first
    | (go_at_call 23; (with_reducible refine hbeg.mono ?_); rintro e w8 ⟨rfl, hb8⟩; have K8 := Lib.hid (K7.out.on hb8); have z0 := nd_cell (heap_on hb8 H7.out.1) 0; have zl := lt_of_heap (heap_on hb8 H7.out.1); have z3 := bel_cell hb8 H7.out.2.1; have zg := Nat.lt_of_lt_of_le H7.out.2.2.2 hb8.size; have htx := text_any (H7.out.2.2.1.later hb8) short_1; rw [text_1] at htx; clear hbeg hb8)
    | (go_at_call 14; (with_reducible refine htx.mono ?_); rintro e w9 ⟨rfl, hb9⟩; have K9 := Lib.hid (K8.out.on hb9); have hcp := two_ways w9; clear htx hb9 z0 zl z3 zg)
    | (go_at_call 16; (with_reducible refine hcp.mono ?_); rintro e w10 ⟨rfl, hb10⟩; have K10 := Lib.hid (K9.out.on hb10); clear hcp hb10))
  go_ret
  exact ⟨rfl, K10.out.below⟩
end Go.Proofs.Ytcgceigcegddlaa
