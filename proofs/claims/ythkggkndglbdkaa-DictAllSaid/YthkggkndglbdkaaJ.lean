import Derived.Test.YthkggkndglbdkaaH
namespace Go.Proofs.Ythkggkndglbdkaa.S
open Go Go.RowKit Go.Shelf Go.Proofs Go.Proofs.Ythkggkndglbdkaa
variable {M : Nat}
attribute [local go_sem] eql26n eql26f

set_option maxRecDepth 100000 in
set_option maxHeartbeats 1000000 in
theorem Del_any {D : Nat} {W0 : World} {cv : Value} {key : K M → Int} (mb : Nat) (L : List (K M × Int)) (hcc : L = [] ∨ Cmp D W0 cv key) (k : K M) (W : World) (hL : L.length ≤ 1000000) (h : Mp D W0 cv key mb L W) :
    Calls Try.prog 23 #[(Value.pointer (some ⟨mb, 0, none⟩)), (Value.string (k).1)] W fun e w' => e = .returned (.bool (getL key k L).isSome) ∧ Mp D W0 cv key mb (delL key k L) w' ∧ Chg (fun b => b = mb) W w' := by
  have hlt := h.lt
  obtain ⟨t, p, c1, ht, hl⟩ := h.rt
  have c0 := h.c0
  have fz := h.fz 1
  have FZ := Lib.hid h.fz
  have HTY := Lib.hid h.ty
  have hs : t.size = L.length := size_of hl
  have cn := count_any t p (mb + 1) W ht
  have hso : Srt key t.toL := hl ▸ h.srt
  have hct : t = .nil ∨ Cmp D W0 cv key := hcc.imp (fun e => T.toL_nil (hl.trans e)) id
  have pt := fun q => without_any (mb + 1) (by have := h.dm; omega) k t p (W.drewN q) hct hso (by omega) hlt (h.bel.trans ((below_drewN W q).mono (by have := h.dm; omega))) (ht.drewN q)
  rw [hl] at pt
  go_enter_defers Try.func23, Try.ntmps23
  go_upto_region 5 with (go_at_call 30; (with_reducible refine cn.mono ?_); rintro e x1 ⟨rfl, hx1⟩; subst x1)
  have hent := enters_of Try.func37 (by kernel_rfl) rfl
  go_cut [] from 13 to 25 (fun wx => Hid (Laid mb (delL key k L) W wx ∧ (∀ j, wx.frozen? ⟨mb, j, none⟩ = false) ∧ wx.cell? ⟨mb, 0, none⟩ = some (cv)))
  case first =>
    refine wp_calm ?_
    go_region_law (refine step_call hent [.pointer p, cv, (Value.string (k).1)] (by simp [Act.eval]) ?_; refine (pt _).mono ?_; rintro e x2 ⟨t2, p2, rfl, ht2, hL2, hb2⟩; have hW2 := below_on (below_drewN W _) hb2; have cc2 := (World.cell?_of_block (w := W) (hW2.block mb hlt)).trans c1; have cc0 := (World.cell?_of_block (w := W) (hW2.block mb hlt)).trans c0; have ff2 := (World.frozen?_of_block (w := W) (hW2.block mb hlt)).trans fz; have FF2 := Lib.hid (fun j => (World.frozen?_of_block (a := ⟨mb, j, none⟩) (w := W) (hW2.block mb hlt)).trans (FZ.out j)); have HL := Lib.hid (laid_of HTY.out hW2 cc2 ht2 hL2); refine ⟨_, rfl, ?_⟩)
    all_goals (go_wp2_with fail; go_meet; exact Lib.hid ⟨HL.out, fun j => by rw [World.frozen?_setCell]; exact FF2.out j, by rw [World.cell?_setCell_other _ _ _ _ (by simp)]; exact cc0⟩)
  case rest =>
    obtain ⟨hld, hfw, h0w⟩ := hcut.out
    have hmp := hld.mp h h.srt.del hfw h0w
    obtain ⟨t2, p2, d1, d2, d3, d4, _⟩ := hld
    have cn2 := count_any t2 p2 (mb + 1) wc d2
    have hs2 : t2.size + (if (getL key k L).isSome then 1 else 0) = L.length := by rw [size_of d3, delL_len]
    have HF := Lib.hid (And.intro hmp d4)
    obtain ⟨z2, hz2⟩ : ∃ z2, t2.size = z2 := ⟨_, rfl⟩
    rw [hz2] at cn2 hs2
    obtain ⟨zl, hzl⟩ : ∃ zl, L.length = zl := ⟨_, rfl⟩
    rw [hzl] at hs2 ⊢
    clear hmp d4 d2 hcut
    cases hg : getL key k L with
    | none =>
      rw [hg] at hs2
      obtain rfl : z2 = zl := by simpa using hs2
      go_wp2_with (go_at_call 30; (with_reducible refine cn2.mono ?_); rintro e x3 ⟨rfl, hx3⟩; subst x3)
      refine leaves_cons (f := 36) (args := #[]) (by simp) (by simp [go_sem]) ?_
      refine (delD_any _).mono ?_
      rintro e u' w'' ⟨rfl, rfl, rfl⟩
      exact ⟨_, results_tmp rfl _ _ _, by simp [hg], HF.out.1, HF.out.2⟩
    | some u =>
      rw [hg] at hs2
      obtain rfl : zl = z2 + 1 := by simp at hs2; omega
      go_wp2_with (go_at_call 30; (with_reducible refine cn2.mono ?_); rintro e x3 ⟨rfl, hx3⟩; subst x3)
      refine leaves_cons (f := 36) (args := #[]) (by simp) (by simp [go_sem]) ?_
      refine (delD_any _).mono ?_
      rintro e u' w'' ⟨rfl, rfl, rfl⟩
      exact ⟨_, results_tmp rfl _ _ _, by simp [hg]; try omega, HF.out.1, HF.out.2⟩

theorem tree_any {D : Nat} {W0 : World} {cv : Value} {key : K M → Int} (mb : Nat) (L : List (K M × Int)) (W : World) (h : Mp D W0 cv key mb L W) :
    Calls Try.prog 29 #[(Value.pointer (some ⟨mb, 0, none⟩))] W fun e w' => w' = W ∧ ∃ t p, e = .returned (.pointer p) ∧ Tr W (mb + 1) t p ∧ t.toL = L := by
  obtain ⟨t, p, c1, ht, hl⟩ := h.rt
  go_enter Try.func29, Try.ntmps29
  go_wp2
  go_ret
  exact ⟨rfl, t, p, rfl, ht, hl⟩
theorem Len_any {D : Nat} {W0 : World} {cv : Value} {key : K M → Int} (mb : Nat) (L : List (K M × Int)) (W : World) (h : Mp D W0 cv key mb L W) :
    Calls Try.prog 17 #[(Value.pointer (some ⟨mb, 0, none⟩))] W fun e w' => e = .returned (Value.int .i64 ((L.length : Int))) ∧ w' = W := by
  have ht := tree_any mb L W h
  go_enter Try.func17, Try.ntmps17
  go_wp2_with (first
    | (go_at_call 29; (with_reducible refine ht.mono ?_); rintro e x1 ⟨hx1, t, p, rfl, htr, hl⟩; subst x1; have cn := count_any t p (mb + 1) W htr; rw [size_of hl] at cn)
    | (go_at_call 30; (with_reducible refine cn.mono ?_); rintro e x1 ⟨rfl, hx1⟩; subst x1))
  go_ret
  exact ⟨rfl, rfl⟩

theorem Has.undrew {W : World} {B : Nat} : ∀ {o : Option Int} {q : Option Addr}, Has M W.drew B o q → Has M W B o q
  | none, _, h => h
  | some _, _, ⟨b, a, n, lp, rp, h1, h2, h3⟩ => ⟨b, a, n, lp, rp, h1, h2, ⟨h3.c0, h3.c1, h3.c2, h3.c3, h3.c4⟩⟩
set_option maxHeartbeats 1000000 in
theorem mfind_any {D : Nat} {W0 : World} {cv : Value} {key : K M → Int} (mb : Nat) (L : List (K M × Int)) (hcc : L = [] ∨ Cmp D W0 cv key) (k : K M) (W : World) (hL : L.length ≤ 1000000) (h : Mp D W0 cv key mb L W) :
    Calls Try.prog 33 #[(Value.pointer (some ⟨mb, 0, none⟩)), (Value.string (k).1)] W fun e w' => (∃ q, w' = W.drewN q) ∧ ∃ q, e = .returned (.tuple #[.pointer q, (Value.int .i64 ((below key k L : Int)))]) ∧ Has M W (mb + 1) (getL key k L) q := by
  have hlt := h.lt
  obtain ⟨t, p, c1, ht, hl⟩ := h.rt
  have c0 := h.c0
  have hso : Srt key t.toL := hl ▸ h.srt
  have hct : t = .nil ∨ Cmp D W0 cv key := hcc.imp (fun e => T.toL_nil (hl.trans e)) id
  have fn := find_any (mb + 1) (by have := h.dm; omega) k t p W.drew hct hso (by have := size_of hl; omega) hlt (h.bel.trans ((Below.refl _ W).drew.mono (by have := h.dm; omega))) ht.drew
  rw [hl] at fn
  go_enter Try.func33, Try.ntmps33
  go_wp2_with fail
  go_region_held3 (fun w => w.cell? ⟨mb, 0, none⟩ = some (cv) ∧ w.cell? ⟨mb, 1, none⟩ = some (.pointer p)) (first | exact ⟨c0, c1⟩) (first
    | (go_at_call 42; (with_reducible refine fn.mono ?_); rintro e x1 ⟨⟨q, rfl⟩, r, rfl, hh⟩))
  go_wp2_with fail
  go_ret2
  exact ⟨⟨_, rfl⟩, r, rfl, hh.undrew⟩

def optV : Option Int → Value
  | none => (Value.int .i64 0)
  | some u => (Value.int .i64 (u))
set_option maxRecDepth 100000 in
set_option maxHeartbeats 1000000 in
theorem Get_any {D : Nat} {W0 : World} {cv : Value} {key : K M → Int} (mb : Nat) (L : List (K M × Int)) (hcc : L = [] ∨ Cmp D W0 cv key) (k : K M) (W : World) (hL : L.length ≤ 1000000) (h : Mp D W0 cv key mb L W) :
    Calls Try.prog 20 #[(Value.pointer (some ⟨mb, 0, none⟩)), (Value.string (k).1)] W fun e w' => e = .returned (.tuple #[optV (getL key k L), .bool (getL key k L).isSome]) ∧ Below W.heap.size W w' := by
  have fn := mfind_any mb L hcc k W hL h
  go_enter_defers Try.func20, Try.ntmps20
  cases hg : getL key k L with
  | none =>
    rw [hg] at fn
    go_wp2_with (go_at_call 33; (with_reducible refine fn.mono ?_); rintro e x1 ⟨⟨q, hx1⟩, r, rfl, hr⟩; have hb1 : Below W.heap.size W x1 := hx1 ▸ below_drewN W q; clear hx1; obtain rfl : r = none := hr)
    refine leaves_cons (f := 32) (args := #[]) (by simp) (by simp [go_sem]) ?_
    refine (getD_any _).mono ?_
    rintro e u' w'' ⟨rfl, rfl, rfl⟩
    exact ⟨_, results_tmp2 rfl _ _ _, rfl, below_on hb1 (below_alloc _ _)⟩
  | some u =>
    rw [hg] at fn
    go_wp2_with (go_at_call 33; (with_reducible refine fn.mono ?_); rintro e x1 ⟨⟨q, hx1⟩, r, rfl, hr⟩; subst x1; obtain ⟨b, a, n, lp, rp, rfl, _, hn⟩ := hr; have c1 := (hn.later (below_drewN W q)).c1; clear hn)
    refine leaves_cons (f := 32) (args := #[]) (by simp) (by simp [go_sem]) ?_
    refine (getD_any _).mono ?_
    rintro e u' w'' ⟨rfl, rfl, rfl⟩
    exact ⟨_, results_tmp2 rfl _ _ _, rfl, below_drewN W q⟩

set_option maxRecDepth 100000 in
set_option maxHeartbeats 1000000 in
theorem Rank_any {D : Nat} {W0 : World} {cv : Value} {key : K M → Int} (mb : Nat) (L : List (K M × Int)) (hcc : L = [] ∨ Cmp D W0 cv key) (k : K M) (W : World) (hL : L.length ≤ 1000000) (h : Mp D W0 cv key mb L W) :
    Calls Try.prog 24 #[(Value.pointer (some ⟨mb, 0, none⟩)), (Value.string (k).1)] W fun e w' => e = .returned (Value.int .i64 ((below key k L : Int))) ∧ Below W.heap.size W w' := by
  have fn := mfind_any mb L hcc k W hL h
  generalize below key k L = z at fn
  go_enter_defers Try.func24, Try.ntmps24
  go_wp2_with (go_at_call 33; (with_reducible refine fn.mono ?_); rintro e x1 ⟨⟨q, hx1⟩, r, rfl, hr⟩; subst x1)
  refine leaves_cons (f := 38) (args := #[]) (by simp) (by simp [go_sem]) ?_
  refine (rankD_any _).mono ?_
  rintro e u' w'' ⟨rfl, rfl, rfl⟩
  exact ⟨_, results_tmp rfl _ _ _, rfl, below_drewN W q⟩

def lookV : Option (K M × Int) → Value
  | none => .tuple #[(Value.string ⟨#[]⟩), (Value.int .i64 0), .bool false]
  | some kv => .tuple #[(Value.string (kv.1).1), (Value.int .i64 (kv.2)), .bool true]
set_option maxRecDepth 100000 in
set_option maxHeartbeats 1000000 in
theorem At_any {D : Nat} {W0 : World} {cv : Value} {key : K M → Int} (mb : Nat) (L : List (K M × Int)) (i : Int) (hi0 : -9223372036854775808 ≤ i) (hi1 : i ≤ 9223372036854775807) (W : World) (hL : L.length ≤ 1000000) (h : Mp D W0 cv key mb L W) :
    Calls Try.prog 25 #[(Value.pointer (some ⟨mb, 0, none⟩)), (Value.int .i64 (i))] W fun e w' => e = .returned (lookV (look L i)) ∧ Below W.heap.size W w' := by
  have ht := tree_any mb L W h
  cases hg : look L i with
  | none =>
    go_enter Try.func25, Try.ntmps25
    go_wp2_with (first
      | (go_at_call 29; (with_reducible refine ht.mono ?_); rintro e x1 ⟨hx1, t, p, rfl, htr, hl⟩; subst x1; have hat := at_any (mb + 1) t p i hi0 hi1 (by have := size_of hl; omega) W htr; rw [hl, hg] at hat; clear htr)
      | (go_at_call 39; (with_reducible refine hat.mono ?_); rintro e x1 ⟨hx1, q, rfl, hq⟩; subst x1; obtain rfl : q = none := hq))
    go_region
    all_goals go_wp2_with fail
    all_goals go_ret3
    all_goals exact ⟨rfl, by first | exact ((below_alloc W _).alloc (by simp) _).drew | exact ((Below.refl _ W).drew.alloc (by simp) _).alloc (by simp) _⟩
  | some kv =>
    go_enter Try.func25, Try.ntmps25
    go_wp2_with (first
      | (go_at_call 29; (with_reducible refine ht.mono ?_); rintro e x1 ⟨hx1, t, p, rfl, htr, hl⟩; subst x1; have hat := at_any (mb + 1) t p i hi0 hi1 (by have := size_of hl; omega) W htr; rw [hl, hg] at hat; clear htr)
      | (go_at_call 39; (with_reducible refine hat.mono ?_); rintro e x1 ⟨hx1, q, rfl, hq⟩; subst x1; obtain ⟨b, n, lp, rp, rfl, _, hn⟩ := hq; have c0 := hn.c0; have c1 := hn.c1; clear hn))
    go_quiet (fail)
    go_wp2_with fail
    go_ret3
    exact ⟨rfl, below_drewN W _⟩
end Go.Proofs.Ythkggkndglbdkaa.S
