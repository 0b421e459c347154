/-  -/
import Derived.Test.YtjepplacnaoomaaGreatZn7
import Derived.Test.YtjepplacnaoomaaGreatZn1
import Derived.Test.YtjepplacnaoomaaGreatZn8
import Derived.Defers
import Derived.Deep.RegionLaw
import Derived.Deep.CutRange
import Derived.Shelf.Abstract
import Derived.Recover
namespace Go.Proofs.YtjepplacnaoomaaGreat.Co.S
open Go Go.RowKit Go.Shelf Go.Proofs Go.Proofs.YtjepplacnaoomaaGreat Go.Proofs.YtjepplacnaoomaaGreat.Co
variable {M : Nat}

attribute [local go_sem] eql44n eql44f

/-- A block that may turn: no node, none of a form. -/
def mtT (ty : TypeId) : Bool := ty == 168 || ty == 26 || ty == 133 || ty == 3 || ty == 42 || ty == 55 || ty == 58 || ty == 22 || ty == 40 || ty == 46 || ty == 101
def Ty (W : World) (mb : Nat) : Prop := ∃ cs ty, W.heap[mb]? = some (.cells cs ty) ∧ mtT ty = true
theorem Ty.of {W W' : World} {mb : Nat} (h : Ty W mb) (hb : W'.heap[mb]? = W.heap[mb]?) : Ty W' mb := by
  obtain ⟨cs, ty, h1, h2⟩ := h
  exact ⟨cs, ty, hb.trans h1, h2⟩
theorem Ty.set {W : World} {mb : Nat} (h : Ty W mb) (j : Nat) (v : Value) : Ty (W.setCell ⟨mb, j, none⟩ v) mb := by
  obtain ⟨cs, ty, h1, h2⟩ := h
  exact ⟨_, ty, heap_setCell_same W mb j cs ty v h1, h2⟩
/-- A map in memory: mb its block; D: below it lies what compare reads. -/
structure Mp (D : Nat) (W0 : World) (cv : Value) (key : K M → Int) (mb : Nat) (L : List (K M × Int)) (W : World) : Prop where
  dm : D ≤ mb
  c0 : W.cell? ⟨mb, 2, none⟩ = some (cv)
  rt : ∃ t p, W.cell? ⟨mb, 3, none⟩ = some (.pointer p) ∧ Tr W (mb + 1) t p ∧ t.toL = L
  fz : ∀ j, W.frozen? ⟨mb, j, none⟩ = false
  srt : Srt key L
  bel : Below D W0 W
  ty : Ty W mb
theorem Mp.lt {D : Nat} {W0 : World} {cv : Value} {key : K M → Int} {mb : Nat} {L : List (K M × Int)} {W : World} (h : Mp D W0 cv key mb L W) : mb < W.heap.size := World.block_lt_of_cell? W ⟨mb, 2, none⟩ h.c0
theorem Mp.later {D : Nat} {W0 : World} {cv : Value} {key : K M → Int} {mb : Nat} {L : List (K M × Int)} {W W' : World} (h : Mp D W0 cv key mb L W) (hb : Below W.heap.size W W') : Mp D W0 cv key mb L W' := by
  have hbl := hb.block mb h.lt
  obtain ⟨t, p, h1, h2, h3⟩ := h.rt
  exact ⟨h.dm, (World.cell?_of_block (w := W) hbl).trans h.c0, ⟨t, p, (World.cell?_of_block (w := W) hbl).trans h1, h2.later hb, h3⟩, fun j => (World.frozen?_of_block (w := W) hbl).trans (h.fz j), h.srt, h.bel.trans (hb.mono (by have := h.lt; have := h.dm; omega)), h.ty.of hbl⟩

set_option maxHeartbeats 1000000 in
theorem new_any (g : Nat) (lb : Array Value) (W : World) : Calls Tryz.prog 161 #[(.func (.func g) #[] lb)] W fun e w' =>
    e = .returned (Value.pointer (some ⟨W.heap.size, 0, none⟩)) ∧ w'.cell? ⟨W.heap.size, 0, none⟩ = some (.func (.func g) #[] lb) ∧ w'.cell? ⟨W.heap.size, 1, none⟩ = some (.pointer none) ∧ Below W.heap.size W w' := by
  go_enter Tryz.func161, Tryz.ntmps161
  go_wp2
  go_ret
  have hh := heap_alloc_new W (.cells #[(.func (.func g) #[] lb), .pointer none] 164)
  exact ⟨rfl, nd_cell hh 0, nd_cell hh 1, below_alloc W _⟩
/-- At most mb has turned of what was there, and in mb at most the map. -/
structure Chm (mb : Nat) (W W' : World) : Prop where
  chg : Chg (fun b => b = mb) W W'
  keep : ∀ j, j ≠ 2 → j ≠ 3 → W'.cell? ⟨mb, j, none⟩ = W.cell? ⟨mb, j, none⟩
theorem Chm.trans {mb : Nat} {A B C : World} (h : Chm mb A B) (k : Chm mb B C) : Chm mb A C := ⟨h.chg.trans k.chg (fun _ _ x => x) (fun _ _ x => x), fun j h2 h3 => (k.keep j h2 h3).trans (h.keep j h2 h3)⟩
theorem Chm.of_below {mb : Nat} {A B : World} (hlt : mb < A.heap.size) (h : Below A.heap.size A B) : Chm mb A B := ⟨Chg.of_below h, fun _ _ _ => World.cell?_of_block (w := A) (h.block mb hlt)⟩

theorem putD_any (w : World) : CallsD Tryz.prog 170 #[] .returning w fun e u' w' => e = .returned (.tuple #[]) ∧ u' = .returning ∧ w' = w := by
  refine callsD_of_wpS Tryz.func170 rfl fun c₀ cs hu => ?_
  apply wpS_region
  cases c₀
  simp_all [wpOpsS, go_sem, recoverD, Tryz.ntmps170, bodyPostS, results, Tryz.results170]
theorem delD_any (w : World) : CallsD Tryz.prog 173 #[] .returning w fun e u' w' => e = .returned (.tuple #[]) ∧ u' = .returning ∧ w' = w := by
  refine callsD_of_wpS Tryz.func173 rfl fun c₀ cs hu => ?_
  apply wpS_region
  cases c₀
  simp_all [wpOpsS, go_sem, recoverD, Tryz.ntmps173, bodyPostS, results, Tryz.results173]
theorem getD_any (w : World) : CallsD Tryz.prog 168 #[] .returning w fun e u' w' => e = .returned (.tuple #[]) ∧ u' = .returning ∧ w' = w := by
  refine callsD_of_wpS Tryz.func168 rfl fun c₀ cs hu => ?_
  apply wpS_region
  cases c₀
  simp_all [wpOpsS, go_sem, recoverD, Tryz.ntmps168, bodyPostS, results, Tryz.results168]
/-- The new root is laid. -/
def Laid (mb : Nat) (L : List (K M × Int)) (W W' : World) : Prop := ∃ t p, W'.cell? ⟨mb, 3, none⟩ = some (.pointer p) ∧ Tr W' (mb + 1) t p ∧ t.toL = L ∧ Chm mb W W' ∧ Ty W' mb
theorem laid_of {mb : Nat} {L : List (K M × Int)} {W x : World} {t : T (K M) Int} {p q : Option Addr} (hty : Ty W mb) (hb : Below W.heap.size W x) (hc : x.cell? ⟨mb, 3, none⟩ = some (.pointer q)) (ht : Tr x (mb + 1) t p) (hL : t.toL = L) :
    Laid mb L W (x.setCell ⟨mb, 3, none⟩ (.pointer p)) := by
  have hlt : mb < W.heap.size := by obtain ⟨_, _, h1, _⟩ := hty; exact lt_of_heap h1
  refine ⟨t, p, World.cell?_setCell_same _ _ _ hc, Tr.of (fun b h1 _ => Below.heap_setCell _ _ _ b (by intro e; simp at e; omega)) ht, hL, ⟨(Chg.of_below (S := fun b => b = mb) hb).setCell (fun _ => rfl) _, fun j _ hj => ?_⟩, (hty.of (hb.block mb hlt)).set 3 _⟩
  rw [World.cell?_setCell_other _ _ _ _ (fun e => hj (by cases e; rfl))]
  exact World.cell?_of_block (w := W) (hb.block mb hlt)
theorem Laid.mp {D : Nat} {W0 : World} {cv : Value} {key : K M → Int} {mb : Nat} {L L' : List (K M × Int)} {W W' : World} (h : Mp D W0 cv key mb L W) (hl : Laid mb L' W W') (hs : Srt key L') (hf : ∀ j, W'.frozen? ⟨mb, j, none⟩ = false)
    (h0 : W'.cell? ⟨mb, 2, none⟩ = some (cv)) : Mp D W0 cv key mb L' W' := by
  obtain ⟨t, p, h1, h2, h3, h4, h5⟩ := hl
  refine ⟨h.dm, h0, ⟨t, p, h1, h2, h3⟩, hf, hs, h.bel.trans (h4.chg.below (by have := h.lt; have := h.dm; omega) (fun b hb e => by have := h.dm; omega)), h5⟩

set_option maxRecDepth 100000 in
set_option maxHeartbeats 1000000 in
theorem Put_any {D : Nat} {W0 : World} {cv : Value} {key : K M → Int} (hc : Cmp D W0 cv key) (mb : Nat) (L : List (K M × Int)) (k : K M) (v : Int) (W : World) (hL : L.length + 1 ≤ 1000000) (h : Mp D W0 cv key mb L W) :
    Calls Tryz.prog 158 #[(Value.pointer (some ⟨mb, 2, none⟩)), (Value.string (k).1), (Value.int .i64 (v))] W fun e w' => e = .returned (.bool (getL key k L).isNone) ∧ Mp D W0 cv key mb (insL key k v L) w' ∧ Chm mb W w' := by
  obtain ⟨g, lb, rfl, hent0, hrun⟩ := id hc
  have hlt := h.lt
  obtain ⟨t, p, c1, ht, hl⟩ := h.rt
  have c0 := h.c0
  have fz := h.fz 3
  have FZ := Lib.hid h.fz
  have HTY := Lib.hid h.ty
  have hs : t.size = L.length := size_of hl
  have cn := count_any t p (mb + 1) W ht
  have hso : Srt key t.toL := hl ▸ h.srt
  have pt := fun q => put_any hc (mb + 1) (by have := h.dm; omega) k v t p (W.drewN q) hso (by omega) hlt (h.bel.trans ((below_drewN W q).mono (by have := h.dm; omega))) (ht.drewN q)
  rw [hl] at pt
  go_enter_defers Tryz.func158, Tryz.ntmps158
  go_upto_region 5 with (go_at_call 171; (with_reducible refine cn.mono ?_); rintro e x1 ⟨rfl, hx1⟩; subst x1)
  have hent := enters_of Tryz.func172 (by kernel_rfl) rfl
  go_cut [] from 22 to 35 (fun wx => Hid (Laid mb (insL key k v L) W wx ∧ (∀ j, wx.frozen? ⟨mb, j, none⟩ = false) ∧ wx.cell? ⟨mb, 2, none⟩ = some ((.func (.func g) #[] lb))))
  case first =>
    refine wp_calm ?_
    go_region_law (refine step_call hent [.pointer p, (.func (.func g) #[] lb), (Value.string (k).1), (Value.int .i64 (v))] (by simp [Act.eval]) ?_; refine (pt _).mono ?_; rintro e x2 ⟨t2, p2, rfl, ht2, hL2, hb2⟩; have hW2 := below_on (below_drewN W _) hb2; have cc2 := (World.cell?_of_block (w := W) (hW2.block mb hlt)).trans c1; have cc0 := (World.cell?_of_block (w := W) (hW2.block mb hlt)).trans c0; have ff2 := (World.frozen?_of_block (w := W) (hW2.block mb hlt)).trans fz; have FF2 := Lib.hid (fun j => (World.frozen?_of_block (a := ⟨mb, j, none⟩) (w := W) (hW2.block mb hlt)).trans (FZ.out j)); have HL := Lib.hid (laid_of HTY.out hW2 cc2 ht2 hL2); refine ⟨_, rfl, ?_⟩)
    all_goals (go_wp2_with fail; go_meet; exact Lib.hid ⟨HL.out, fun j => by rw [World.frozen?_setCell]; exact FF2.out j, by rw [World.cell?_setCell_other _ _ _ _ (by simp)]; exact cc0⟩)
  case rest =>
    obtain ⟨hld, hfw, h0w⟩ := hcut.out
    have hmp := hld.mp h h.srt.ins hfw h0w
    obtain ⟨t2, p2, d1, d2, d3, d4, _⟩ := hld
    have cn2 := count_any t2 p2 (mb + 1) wc d2
    have hs2 : t2.size = L.length + (if (getL key k L).isSome then 0 else 1) := by rw [size_of d3, insL_len h.srt]
    rw [hs2] at cn2
    have HF := Lib.hid (And.intro hmp d4)
    clear hmp d4 d2 hcut
    cases hg : getL key k L with
    | none =>
      rw [hg] at cn2
      go_wp2_with (go_at_call 171; (with_reducible refine cn2.mono ?_); rintro e x3 ⟨rfl, hx3⟩; subst x3)
      refine leaves_cons (f := 170) (args := #[]) (by simp) (by simp [go_sem]) ?_
      refine (putD_any _).mono ?_
      rintro e u' w'' ⟨rfl, rfl, rfl⟩
      exact ⟨_, results_tmp rfl _ _ _, by simp [hg]; try omega, HF.out.1, HF.out.2⟩
    | some u =>
      rw [hg] at cn2
      go_wp2_with (go_at_call 171; (with_reducible refine cn2.mono ?_); rintro e x3 ⟨rfl, hx3⟩; subst x3)
      refine leaves_cons (f := 170) (args := #[]) (by simp) (by simp [go_sem]) ?_
      refine (putD_any _).mono ?_
      rintro e u' w'' ⟨rfl, rfl, rfl⟩
      exact ⟨_, results_tmp rfl _ _ _, by simp [hg]; try omega, HF.out.1, HF.out.2⟩
end Go.Proofs.YtjepplacnaoomaaGreat.Co.S
namespace Go.Proofs.YtjepplacnaoomaaGreat.Co.S
open Go Go.RowKit Go.Shelf Go.Proofs Go.Proofs.YtjepplacnaoomaaGreat Go.Proofs.YtjepplacnaoomaaGreat.Co
variable {M : Nat}
attribute [local go_sem] eql44n eql44f

set_option maxRecDepth 100000 in
set_option maxHeartbeats 1000000 in
theorem Del_any {D : Nat} {W0 : World} {cv : Value} {key : K M → Int} (mb : Nat) (L : List (K M × Int)) (hcc : L = [] ∨ Cmp D W0 cv key) (k : K M) (W : World) (hL : L.length ≤ 1000000) (h : Mp D W0 cv key mb L W) :
    Calls Tryz.prog 159 #[(Value.pointer (some ⟨mb, 2, none⟩)), (Value.string (k).1)] W fun e w' => e = .returned (.bool (getL key k L).isSome) ∧ Mp D W0 cv key mb (delL key k L) w' ∧ Chm mb W w' := by
  have hlt := h.lt
  obtain ⟨t, p, c1, ht, hl⟩ := h.rt
  have c0 := h.c0
  have fz := h.fz 3
  have FZ := Lib.hid h.fz
  have HTY := Lib.hid h.ty
  have hs : t.size = L.length := size_of hl
  have cn := count_any t p (mb + 1) W ht
  have hso : Srt key t.toL := hl ▸ h.srt
  have hct : t = .nil ∨ Cmp D W0 cv key := hcc.imp (fun e => T.toL_nil (hl.trans e)) id
  have pt := fun q => without_any (mb + 1) (by have := h.dm; omega) k t p (W.drewN q) hct hso (by omega) hlt (h.bel.trans ((below_drewN W q).mono (by have := h.dm; omega))) (ht.drewN q)
  rw [hl] at pt
  go_enter_defers Tryz.func159, Tryz.ntmps159
  go_upto_region 5 with (go_at_call 171; (with_reducible refine cn.mono ?_); rintro e x1 ⟨rfl, hx1⟩; subst x1)
  have hent := enters_of Tryz.func174 (by kernel_rfl) rfl
  go_cut [] from 13 to 25 (fun wx => Hid (Laid mb (delL key k L) W wx ∧ (∀ j, wx.frozen? ⟨mb, j, none⟩ = false) ∧ wx.cell? ⟨mb, 2, none⟩ = some (cv)))
  case first =>
    refine wp_calm ?_
    go_region_law (refine step_call hent [.pointer p, cv, (Value.string (k).1)] (by simp [Act.eval]) ?_; refine (pt _).mono ?_; rintro e x2 ⟨t2, p2, rfl, ht2, hL2, hb2⟩; have hW2 := below_on (below_drewN W _) hb2; have cc2 := (World.cell?_of_block (w := W) (hW2.block mb hlt)).trans c1; have cc0 := (World.cell?_of_block (w := W) (hW2.block mb hlt)).trans c0; have ff2 := (World.frozen?_of_block (w := W) (hW2.block mb hlt)).trans fz; have FF2 := Lib.hid (fun j => (World.frozen?_of_block (a := ⟨mb, j, none⟩) (w := W) (hW2.block mb hlt)).trans (FZ.out j)); have HL := Lib.hid (laid_of HTY.out hW2 cc2 ht2 hL2); refine ⟨_, rfl, ?_⟩)
    all_goals (go_wp2_with fail; go_meet; exact Lib.hid ⟨HL.out, fun j => by rw [World.frozen?_setCell]; exact FF2.out j, by rw [World.cell?_setCell_other _ _ _ _ (by simp)]; exact cc0⟩)
  case rest =>
    obtain ⟨hld, hfw, h0w⟩ := hcut.out
    have hmp := hld.mp h h.srt.del hfw h0w
    obtain ⟨t2, p2, d1, d2, d3, d4, _⟩ := hld
    have cn2 := count_any t2 p2 (mb + 1) wc d2
    have hs2 : t2.size + (if (getL key k L).isSome then 1 else 0) = L.length := by rw [size_of d3, delL_len]
    have HF := Lib.hid (And.intro hmp d4)
    obtain ⟨z2, hz2⟩ : ∃ z2, t2.size = z2 := ⟨_, rfl⟩
    rw [hz2] at cn2 hs2
    obtain ⟨zl, hzl⟩ : ∃ zl, L.length = zl := ⟨_, rfl⟩
    rw [hzl] at hs2 ⊢
    clear hmp d4 d2 hcut
    cases hg : getL key k L with
    | none =>
      rw [hg] at hs2
      obtain rfl : z2 = zl := by simpa using hs2
      go_wp2_with (go_at_call 171; (with_reducible refine cn2.mono ?_); rintro e x3 ⟨rfl, hx3⟩; subst x3)
      refine leaves_cons (f := 173) (args := #[]) (by simp) (by simp [go_sem]) ?_
      refine (delD_any _).mono ?_
      rintro e u' w'' ⟨rfl, rfl, rfl⟩
      exact ⟨_, results_tmp rfl _ _ _, by simp [hg], HF.out.1, HF.out.2⟩
    | some u =>
      rw [hg] at hs2
      obtain rfl : zl = z2 + 1 := by simp at hs2; omega
      go_wp2_with (go_at_call 171; (with_reducible refine cn2.mono ?_); rintro e x3 ⟨rfl, hx3⟩; subst x3)
      refine leaves_cons (f := 173) (args := #[]) (by simp) (by simp [go_sem]) ?_
      refine (delD_any _).mono ?_
      rintro e u' w'' ⟨rfl, rfl, rfl⟩
      exact ⟨_, results_tmp rfl _ _ _, by simp [hg]; try omega, HF.out.1, HF.out.2⟩

theorem tree_any {D : Nat} {W0 : World} {cv : Value} {key : K M → Int} (mb : Nat) (L : List (K M × Int)) (W : World) (h : Mp D W0 cv key mb L W) :
    Calls Tryz.prog 175 #[(Value.pointer (some ⟨mb, 2, none⟩))] W fun e w' => w' = W ∧ ∃ t p, e = .returned (.pointer p) ∧ Tr W (mb + 1) t p ∧ t.toL = L := by
  obtain ⟨t, p, c1, ht, hl⟩ := h.rt
  go_enter Tryz.func175, Tryz.ntmps175
  go_wp2
  go_ret
  exact ⟨rfl, t, p, rfl, ht, hl⟩
theorem Len_any {D : Nat} {W0 : World} {cv : Value} {key : K M → Int} (mb : Nat) (L : List (K M × Int)) (W : World) (h : Mp D W0 cv key mb L W) :
    Calls Tryz.prog 160 #[(Value.pointer (some ⟨mb, 2, none⟩))] W fun e w' => e = .returned (Value.int .i64 ((L.length : Int))) ∧ w' = W := by
  have ht := tree_any mb L W h
  go_enter Tryz.func160, Tryz.ntmps160
  go_wp2_with (first
    | (go_at_call 175; (with_reducible refine ht.mono ?_); rintro e x1 ⟨hx1, t, p, rfl, htr, hl⟩; subst x1; have cn := count_any t p (mb + 1) W htr; rw [size_of hl] at cn)
    | (go_at_call 171; (with_reducible refine cn.mono ?_); rintro e x1 ⟨rfl, hx1⟩; subst x1))
  go_ret
  exact ⟨rfl, rfl⟩

theorem Has.undrew {W : World} {B : Nat} : ∀ {o : Option Int} {q : Option Addr}, Has M W.drew B o q → Has M W B o q
  | none, _, h => h
  | some _, _, ⟨b, a, n, lp, rp, h1, h2, h3⟩ => ⟨b, a, n, lp, rp, h1, h2, ⟨h3.c0, h3.c1, h3.c2, h3.c3, h3.c4⟩⟩
set_option maxHeartbeats 1000000 in
theorem mfind_any {D : Nat} {W0 : World} {cv : Value} {key : K M → Int} (mb : Nat) (L : List (K M × Int)) (hcc : L = [] ∨ Cmp D W0 cv key) (k : K M) (W : World) (hL : L.length ≤ 1000000) (h : Mp D W0 cv key mb L W) :
    Calls Tryz.prog 169 #[(Value.pointer (some ⟨mb, 2, none⟩)), (Value.string (k).1)] W fun e w' => (∃ q, w' = W.drewN q) ∧ ∃ q, e = .returned (.tuple #[.pointer q, (Value.int .i64 ((below key k L : Int)))]) ∧ Has M W (mb + 1) (getL key k L) q := by
  have hlt := h.lt
  obtain ⟨t, p, c1, ht, hl⟩ := h.rt
  have c0 := h.c0
  have hso : Srt key t.toL := hl ▸ h.srt
  have hct : t = .nil ∨ Cmp D W0 cv key := hcc.imp (fun e => T.toL_nil (hl.trans e)) id
  have fn := find_any (mb + 1) (by have := h.dm; omega) k t p W.drew hct hso (by have := size_of hl; omega) hlt (h.bel.trans ((Below.refl _ W).drew.mono (by have := h.dm; omega))) ht.drew
  rw [hl] at fn
  go_enter Tryz.func169, Tryz.ntmps169
  go_wp2_with fail
  go_region_held3 (fun w => w.cell? ⟨mb, 2, none⟩ = some (cv) ∧ w.cell? ⟨mb, 3, none⟩ = some (.pointer p)) (first | exact ⟨c0, c1⟩) (first
    | (go_at_call 187; (with_reducible refine fn.mono ?_); rintro e x1 ⟨⟨q, rfl⟩, r, rfl, hh⟩))
  go_wp2_with fail
  go_ret2
  exact ⟨⟨_, rfl⟩, r, rfl, hh.undrew⟩

def optV : Option Int → Value
  | none => (Value.int .i64 0)
  | some u => (Value.int .i64 (u))
set_option maxRecDepth 100000 in
set_option maxHeartbeats 1000000 in
theorem Get_any {D : Nat} {W0 : World} {cv : Value} {key : K M → Int} (mb : Nat) (L : List (K M × Int)) (hcc : L = [] ∨ Cmp D W0 cv key) (k : K M) (W : World) (hL : L.length ≤ 1000000) (h : Mp D W0 cv key mb L W) :
    Calls Tryz.prog 157 #[(Value.pointer (some ⟨mb, 2, none⟩)), (Value.string (k).1)] W fun e w' => e = .returned (.tuple #[optV (getL key k L), .bool (getL key k L).isSome]) ∧ Below W.heap.size W w' := by
  have fn := mfind_any mb L hcc k W hL h
  go_enter_defers Tryz.func157, Tryz.ntmps157
  cases hg : getL key k L with
  | none =>
    rw [hg] at fn
    go_wp2_with (go_at_call 169; (with_reducible refine fn.mono ?_); rintro e x1 ⟨⟨q, hx1⟩, r, rfl, hr⟩; have hb1 : Below W.heap.size W x1 := hx1 ▸ below_drewN W q; clear hx1; obtain rfl : r = none := hr)
    refine leaves_cons (f := 168) (args := #[]) (by simp) (by simp [go_sem]) ?_
    refine (getD_any _).mono ?_
    rintro e u' w'' ⟨rfl, rfl, rfl⟩
    exact ⟨_, results_tmp2 rfl _ _ _, rfl, below_on hb1 (below_alloc _ _)⟩
  | some u =>
    rw [hg] at fn
    go_wp2_with (go_at_call 169; (with_reducible refine fn.mono ?_); rintro e x1 ⟨⟨q, hx1⟩, r, rfl, hr⟩; subst x1; obtain ⟨b, a, n, lp, rp, rfl, _, hn⟩ := hr; have c1 := (hn.later (below_drewN W q)).c1; clear hn)
    refine leaves_cons (f := 168) (args := #[]) (by simp) (by simp [go_sem]) ?_
    refine (getD_any _).mono ?_
    rintro e u' w'' ⟨rfl, rfl, rfl⟩
    exact ⟨_, results_tmp2 rfl _ _ _, rfl, below_drewN W q⟩

end Go.Proofs.YtjepplacnaoomaaGreat.Co.S
