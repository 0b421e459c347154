import Derived.Test.YtieohdlmighmkaaGI
import Derived.Test.YtieohdlmighmkaaSep
import Derived.Test.YtieohdlmighmkaaEq
import Derived.Defers
import Derived.Deep.RegionLaw
import Derived.Deep.CutRange
import Derived.Shelf.Abstract
import Derived.Recover
namespace Go.Proofs.Ytieohdlmighmkaa.I
open Go Go.RowKit Go.Shelf Go.Proofs Go.Proofs.Ytieohdlmighmkaa

attribute [local go_sem] eql26n eql26f

/-- A map in memory: mb its block; D: below it lies what compare reads. -/
structure Mp (D : Nat) (W0 : World) (g : Nat) (lb : Array Value) (key : Int → Int) (mb : Nat) (L : List (Int × Int)) (W : World) : Prop where
  dm : D ≤ mb
  c0 : W.cell? ⟨mb, 0, none⟩ = some (.func (.func g) #[] lb)
  rt : ∃ t p, W.cell? ⟨mb, 1, none⟩ = some (.pointer p) ∧ Tr W (mb + 1) t p ∧ t.toL = L
  fz : W.frozen? ⟨mb, 1, none⟩ = false
  srt : Srt key L
  bel : Below D W0 W
theorem Mp.lt {D : Nat} {W0 : World} {g : Nat} {lb : Array Value} {key : Int → Int} {mb : Nat} {L : List (Int × Int)} {W : World} (h : Mp D W0 g lb key mb L W) : mb < W.heap.size := World.block_lt_of_cell? W ⟨mb, 0, none⟩ h.c0
theorem Mp.later {D : Nat} {W0 : World} {g : Nat} {lb : Array Value} {key : Int → Int} {mb : Nat} {L : List (Int × Int)} {W W' : World} (h : Mp D W0 g lb key mb L W) (hb : Below W.heap.size W W') : Mp D W0 g lb key mb L W' := by
  have hbl := hb.block mb h.lt
  obtain ⟨t, p, h1, h2, h3⟩ := h.rt
  exact ⟨h.dm, (World.cell?_of_block (w := W) hbl).trans h.c0, ⟨t, p, (World.cell?_of_block (w := W) hbl).trans h1, h2.later hb, h3⟩, (World.frozen?_of_block (w := W) hbl).trans h.fz, h.srt, h.bel.trans (hb.mono (by have := h.lt; have := h.dm; omega))⟩

set_option maxHeartbeats 1000000 in
theorem new_any (g : Nat) (lb : Array Value) (key : Int → Int) (W : World) : Calls Try.prog 7 #[.func (.func g) #[] lb] W fun e w' =>
    e = .returned (Value.pointer (some ⟨W.heap.size, 0, none⟩)) ∧ Mp W.heap.size W g lb key W.heap.size [] w' ∧ Below W.heap.size W w' := by
  go_enter Try.func7, Try.ntmps7
  go_wp2
  go_ret
  have hh := heap_alloc_new W (.cells #[.func (.func g) #[] lb, .pointer none] 59)
  refine ⟨rfl, ⟨Nat.le_refl _, nd_cell hh 0, ⟨.nil, none, nd_cell hh 1, rfl, rfl⟩, ?_, Srt.nil, below_alloc W _⟩, below_alloc W _⟩
  unfold World.frozen?
  rw [hh]
  rfl

theorem putD_any (w : World) : CallsD Try.prog 25 #[] .returning w fun e u' w' => e = .returned (.tuple #[]) ∧ u' = .returning ∧ w' = w := by
  refine callsD_of_wpS Try.func25 rfl fun c₀ cs hu => ?_
  apply wpS_region
  cases c₀
  simp_all [wpOpsS, go_sem, recoverD, Try.ntmps25, bodyPostS, results, Try.results25]
theorem delD_any (w : World) : CallsD Try.prog 28 #[] .returning w fun e u' w' => e = .returned (.tuple #[]) ∧ u' = .returning ∧ w' = w := by
  refine callsD_of_wpS Try.func28 rfl fun c₀ cs hu => ?_
  apply wpS_region
  cases c₀
  simp_all [wpOpsS, go_sem, recoverD, Try.ntmps28, bodyPostS, results, Try.results28]
theorem getD_any (w : World) : CallsD Try.prog 30 #[] .returning w fun e u' w' => e = .returned (.tuple #[]) ∧ u' = .returning ∧ w' = w := by
  refine callsD_of_wpS Try.func30 rfl fun c₀ cs hu => ?_
  apply wpS_region
  cases c₀
  simp_all [wpOpsS, go_sem, recoverD, Try.ntmps30, bodyPostS, results, Try.results30]
theorem rankD_any (w : World) : CallsD Try.prog 52 #[] .returning w fun e u' w' => e = .returned (.tuple #[]) ∧ u' = .returning ∧ w' = w := by
  refine callsD_of_wpS Try.func52 rfl fun c₀ cs hu => ?_
  apply wpS_region
  cases c₀
  simp_all [wpOpsS, go_sem, recoverD, Try.ntmps52, bodyPostS, results, Try.results52]

/-- The new root is laid. -/
def Laid (mb : Nat) (L : List (Int × Int)) (W W' : World) : Prop := ∃ t p, W'.cell? ⟨mb, 1, none⟩ = some (.pointer p) ∧ Tr W' (mb + 1) t p ∧ t.toL = L ∧ Chg (fun b => b = mb) W W'
theorem laid_of {mb : Nat} {L : List (Int × Int)} {W x : World} {t : T Int} {p q : Option Addr} (hb : Below W.heap.size W x) (hc : x.cell? ⟨mb, 1, none⟩ = some (.pointer q)) (ht : Tr x (mb + 1) t p) (hL : t.toL = L) :
    Laid mb L W (x.setCell ⟨mb, 1, none⟩ (.pointer p)) :=
  ⟨t, p, World.cell?_setCell_same _ _ _ hc, Tr.of (fun b h1 _ => Below.heap_setCell _ _ _ b (by intro e; simp at e; omega)) ht, hL, (Chg.of_below (S := fun b => b = mb) hb).setCell (fun _ => rfl) _⟩
theorem Laid.mp {D : Nat} {W0 : World} {g : Nat} {lb : Array Value} {key : Int → Int} {mb : Nat} {L L' : List (Int × Int)} {W W' : World} (h : Mp D W0 g lb key mb L W) (hl : Laid mb L' W W') (hs : Srt key L') (hf : W'.frozen? ⟨mb, 1, none⟩ = false)
    (h0 : W'.cell? ⟨mb, 0, none⟩ = some (.func (.func g) #[] lb)) : Mp D W0 g lb key mb L' W' := by
  obtain ⟨t, p, h1, h2, h3, h4⟩ := hl
  refine ⟨h.dm, h0, ⟨t, p, h1, h2, h3⟩, hf, hs, h.bel.trans (h4.below (by have := h.lt; have := h.dm; omega) (fun b hb e => by have := h.dm; omega))⟩

set_option maxRecDepth 100000 in
set_option maxHeartbeats 1000000 in
theorem Put_any {D : Nat} {W0 : World} {g : Nat} {lb : Array Value} {key : Int → Int} (hc : Cmp D W0 g lb key) (mb : Nat) (L : List (Int × Int)) (k : Int) (v : Int) (W : World) (hL : L.length + 1 ≤ 1000000) (h : Mp D W0 g lb key mb L W) :
    Calls Try.prog 9 #[(Value.pointer (some ⟨mb, 0, none⟩)), (Value.int .i64 (k)), (Value.int .i64 (v))] W fun e w' => e = .returned (.bool (getL key k L).isNone) ∧ Mp D W0 g lb key mb (insL key k v L) w' ∧ Chg (fun b => b = mb) W w' := by
  have hlt := h.lt
  obtain ⟨t, p, c1, ht, hl⟩ := h.rt
  have c0 := h.c0
  have fz := h.fz
  have hs : t.size = L.length := size_of hl
  have cn := count_any t p (mb + 1) W ht
  have hso : Srt key t.toL := hl ▸ h.srt
  have pt := fun q => put_any hc (mb + 1) (by have := h.dm; omega) k v t p (W.drewN q) hso (by omega) hlt (h.bel.trans ((below_drewN W q).mono (by have := h.dm; omega))) (ht.drewN q)
  rw [hl] at pt
  go_enter_defers Try.func9, Try.ntmps9
  go_upto_region 5 with (go_at_call 26; (with_reducible refine cn.mono ?_); rintro e x1 ⟨rfl, hx1⟩; subst x1)
  have hent := enters_of Try.func27 (by kernel_rfl) rfl
  go_cut [] from 22 to 35 (fun wx => Hid (Laid mb (insL key k v L) W wx ∧ wx.frozen? ⟨mb, 1, none⟩ = false ∧ wx.cell? ⟨mb, 0, none⟩ = some (.func (.func g) #[] lb)))
  case first =>
    refine wp_calm ?_
    go_region_law (refine step_call hent [.pointer p, .func (.func g) #[] lb, (Value.int .i64 (k)), (Value.int .i64 (v))] (by simp [Act.eval]) ?_; refine (pt _).mono ?_; rintro e x2 ⟨t2, p2, rfl, ht2, hL2, hb2⟩; have hW2 := below_on (below_drewN W _) hb2; have cc2 := (World.cell?_of_block (w := W) (hW2.block mb hlt)).trans c1; have cc0 := (World.cell?_of_block (w := W) (hW2.block mb hlt)).trans c0; have ff2 := (World.frozen?_of_block (w := W) (hW2.block mb hlt)).trans fz; have HL := Lib.hid (laid_of hW2 cc2 ht2 hL2); refine ⟨_, rfl, ?_⟩)
    all_goals (go_wp2_with fail; go_meet; exact Lib.hid ⟨HL.out, by rw [World.frozen?_setCell]; exact ff2, by rw [World.cell?_setCell_other _ _ _ _ (by simp)]; exact cc0⟩)
  case rest =>
    obtain ⟨hld, hfw, h0w⟩ := hcut.out
    have hmp := hld.mp h h.srt.ins hfw h0w
    obtain ⟨t2, p2, d1, d2, d3, d4⟩ := hld
    have cn2 := count_any t2 p2 (mb + 1) wc d2
    have hs2 : t2.size = L.length + (if (getL key k L).isSome then 0 else 1) := by rw [size_of d3, insL_len h.srt]
    rw [hs2] at cn2
    have HF := Lib.hid (And.intro hmp d4)
    clear hmp d4 d2 hcut
    cases hg : getL key k L with
    | none =>
      rw [hg] at cn2
      go_wp2_with (go_at_call 26; (with_reducible refine cn2.mono ?_); rintro e x3 ⟨rfl, hx3⟩; subst x3)
      refine leaves_cons (f := 25) (args := #[]) (by simp) (by simp [go_sem]) ?_
      refine (putD_any _).mono ?_
      rintro e u' w'' ⟨rfl, rfl, rfl⟩
      exact ⟨_, results_tmp rfl _ _ _, by simp [hg]; try omega, HF.out.1, HF.out.2⟩
    | some u =>
      rw [hg] at cn2
      go_wp2_with (go_at_call 26; (with_reducible refine cn2.mono ?_); rintro e x3 ⟨rfl, hx3⟩; subst x3)
      refine leaves_cons (f := 25) (args := #[]) (by simp) (by simp [go_sem]) ?_
      refine (putD_any _).mono ?_
      rintro e u' w'' ⟨rfl, rfl, rfl⟩
      exact ⟨_, results_tmp rfl _ _ _, by simp [hg]; try omega, HF.out.1, HF.out.2⟩
end Go.Proofs.Ytieohdlmighmkaa.I
