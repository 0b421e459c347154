import Derived.Test.YtglfmbpcapendaaH
namespace Go.Proofs.Ytglfmbpcapendaa.S
open Go Go.RowKit Go.Shelf Go.Proofs Go.Proofs.Ytglfmbpcapendaa
variable {M : Nat}
attribute [local go_sem] eql44n eql44f

set_option maxRecDepth 100000 in
set_option maxHeartbeats 1000000 in
theorem Del_any {D : Nat} {W0 : World} {cv : Value} {key : K M → Int} (mb : Nat) (L : List (K M × Int)) (hcc : L = [] ∨ Cmp D W0 cv key) (k : K M) (W : World) (hL : L.length ≤ 1000000) (h : Mp D W0 cv key mb L W) :
    Calls Try.prog 33 #[(Value.pointer (some ⟨mb, 2, none⟩)), (Value.string (k).1)] W fun e w' => e = .returned (.bool (getL key k L).isSome) ∧ Mp D W0 cv key mb (delL key k L) w' ∧ Chm mb W w' := by
  have hlt := h.lt
  obtain ⟨t, p, c1, ht, hl⟩ := h.rt
  have c0 := h.c0
  have fz := h.fz 3
  have FZ := Lib.hid h.fz
  have HTY := Lib.hid h.ty
  have hs : t.size = L.length := size_of hl
  have cn := count_any t p (mb + 1) W ht
  have hso : Srt key t.toL := hl ▸ h.srt
  have hct : t = .nil ∨ Cmp D W0 cv key := hcc.imp (fun e => T.toL_nil (hl.trans e)) id
  have pt := fun q => without_any (mb + 1) (by have := h.dm; omega) k t p (W.drewN q) hct hso (by omega) hlt (h.bel.trans ((below_drewN W q).mono (by have := h.dm; omega))) (ht.drewN q)
  rw [hl] at pt
  go_enter_defers Try.func33, Try.ntmps33
  go_upto_region 5 with (go_at_call 35; (with_reducible refine cn.mono ?_); rintro e x1 ⟨rfl, hx1⟩; subst x1)
  have hent := enters_of Try.func42 (by kernel_rfl) rfl
  go_cut [] from 13 to 25 (fun wx => Hid (Laid mb (delL key k L) W wx ∧ (∀ j, wx.frozen? ⟨mb, j, none⟩ = false) ∧ wx.cell? ⟨mb, 2, none⟩ = some (cv)))
  case first =>
    refine wp_calm ?_
    go_region_law (refine step_call hent [.pointer p, cv, (Value.string (k).1)] (by simp [Act.eval]) ?_; refine (pt _).mono ?_; rintro e x2 ⟨t2, p2, rfl, ht2, hL2, hb2⟩; have hW2 := below_on (below_drewN W _) hb2; have cc2 := (World.cell?_of_block (w := W) (hW2.block mb hlt)).trans c1; have cc0 := (World.cell?_of_block (w := W) (hW2.block mb hlt)).trans c0; have ff2 := (World.frozen?_of_block (w := W) (hW2.block mb hlt)).trans fz; have FF2 := Lib.hid (fun j => (World.frozen?_of_block (a := ⟨mb, j, none⟩) (w := W) (hW2.block mb hlt)).trans (FZ.out j)); have HL := Lib.hid (laid_of HTY.out hW2 cc2 ht2 hL2); refine ⟨_, rfl, ?_⟩)
    all_goals (go_wp2_with fail; go_meet; exact Lib.hid ⟨HL.out, fun j => by rw [World.frozen?_setCell]; exact FF2.out j, by rw [World.cell?_setCell_other _ _ _ _ (by simp)]; exact cc0⟩)
  case rest =>
    obtain ⟨hld, hfw, h0w⟩ := hcut.out
    have hmp := hld.mp h h.srt.del hfw h0w
    obtain ⟨t2, p2, d1, d2, d3, d4, _⟩ := hld
    have cn2 := count_any t2 p2 (mb + 1) wc d2
    have hs2 : t2.size + (if (getL key k L).isSome then 1 else 0) = L.length := by rw [size_of d3, delL_len]
    have HF := Lib.hid (And.intro hmp d4)
    obtain ⟨z2, hz2⟩ : ∃ z2, t2.size = z2 := ⟨_, rfl⟩
    rw [hz2] at cn2 hs2
    obtain ⟨zl, hzl⟩ : ∃ zl, L.length = zl := ⟨_, rfl⟩
    rw [hzl] at hs2 ⊢
    clear hmp d4 d2 hcut
    cases hg : getL key k L with
    | none =>
      rw [hg] at hs2
      obtain rfl : z2 = zl := by simpa using hs2
      go_wp2_with (go_at_call 35; (with_reducible refine cn2.mono ?_); rintro e x3 ⟨rfl, hx3⟩; subst x3)
      refine leaves_cons (f := 41) (args := #[]) (by simp) (by simp [go_sem]) ?_
      refine (delD_any _).mono ?_
      rintro e u' w'' ⟨rfl, rfl, rfl⟩
      exact ⟨_, results_tmp rfl _ _ _, by simp [hg], HF.out.1, HF.out.2⟩
    | some u =>
      rw [hg] at hs2
      obtain rfl : zl = z2 + 1 := by simp at hs2; omega
      go_wp2_with (go_at_call 35; (with_reducible refine cn2.mono ?_); rintro e x3 ⟨rfl, hx3⟩; subst x3)
      refine leaves_cons (f := 41) (args := #[]) (by simp) (by simp [go_sem]) ?_
      refine (delD_any _).mono ?_
      rintro e u' w'' ⟨rfl, rfl, rfl⟩
      exact ⟨_, results_tmp rfl _ _ _, by simp [hg]; try omega, HF.out.1, HF.out.2⟩

theorem tree_any {D : Nat} {W0 : World} {cv : Value} {key : K M → Int} (mb : Nat) (L : List (K M × Int)) (W : World) (h : Mp D W0 cv key mb L W) :
    Calls Try.prog 34 #[(Value.pointer (some ⟨mb, 2, none⟩))] W fun e w' => w' = W ∧ ∃ t p, e = .returned (.pointer p) ∧ Tr W (mb + 1) t p ∧ t.toL = L := by
  obtain ⟨t, p, c1, ht, hl⟩ := h.rt
  go_enter Try.func34, Try.ntmps34
  go_wp2
  go_ret
  exact ⟨rfl, t, p, rfl, ht, hl⟩
theorem Len_any {D : Nat} {W0 : World} {cv : Value} {key : K M → Int} (mb : Nat) (L : List (K M × Int)) (W : World) (h : Mp D W0 cv key mb L W) :
    Calls Try.prog 27 #[(Value.pointer (some ⟨mb, 2, none⟩))] W fun e w' => e = .returned (Value.int .i64 ((L.length : Int))) ∧ w' = W := by
  have ht := tree_any mb L W h
  go_enter Try.func27, Try.ntmps27
  go_wp2_with (first
    | (go_at_call 34; (with_reducible refine ht.mono ?_); rintro e x1 ⟨hx1, t, p, rfl, htr, hl⟩; subst x1; have cn := count_any t p (mb + 1) W htr; rw [size_of hl] at cn)
    | (go_at_call 35; (with_reducible refine cn.mono ?_); rintro e x1 ⟨rfl, hx1⟩; subst x1))
  go_ret
  exact ⟨rfl, rfl⟩

theorem Has.undrew {W : World} {B : Nat} : ∀ {o : Option Int} {q : Option Addr}, Has M W.drew B o q → Has M W B o q
  | none, _, h => h
  | some _, _, ⟨b, a, n, lp, rp, h1, h2, h3⟩ => ⟨b, a, n, lp, rp, h1, h2, ⟨h3.c0, h3.c1, h3.c2, h3.c3, h3.c4⟩⟩
set_option maxHeartbeats 1000000 in
theorem mfind_any {D : Nat} {W0 : World} {cv : Value} {key : K M → Int} (mb : Nat) (L : List (K M × Int)) (hcc : L = [] ∨ Cmp D W0 cv key) (k : K M) (W : World) (hL : L.length ≤ 1000000) (h : Mp D W0 cv key mb L W) :
    Calls Try.prog 38 #[(Value.pointer (some ⟨mb, 2, none⟩)), (Value.string (k).1)] W fun e w' => (∃ q, w' = W.drewN q) ∧ ∃ q, e = .returned (.tuple #[.pointer q, (Value.int .i64 ((below key k L : Int)))]) ∧ Has M W (mb + 1) (getL key k L) q := by
  have hlt := h.lt
  obtain ⟨t, p, c1, ht, hl⟩ := h.rt
  have c0 := h.c0
  have hso : Srt key t.toL := hl ▸ h.srt
  have hct : t = .nil ∨ Cmp D W0 cv key := hcc.imp (fun e => T.toL_nil (hl.trans e)) id
  have fn := find_any (mb + 1) (by have := h.dm; omega) k t p W.drew hct hso (by have := size_of hl; omega) hlt (h.bel.trans ((Below.refl _ W).drew.mono (by have := h.dm; omega))) ht.drew
  rw [hl] at fn
  go_enter Try.func38, Try.ntmps38
  go_wp2_with fail
  go_region_held3 (fun w => w.cell? ⟨mb, 2, none⟩ = some (cv) ∧ w.cell? ⟨mb, 3, none⟩ = some (.pointer p)) (first | exact ⟨c0, c1⟩) (first
    | (go_at_call 44; (with_reducible refine fn.mono ?_); rintro e x1 ⟨⟨q, rfl⟩, r, rfl, hh⟩))
  go_wp2_with fail
  go_ret2
  exact ⟨⟨_, rfl⟩, r, rfl, hh.undrew⟩

def optV : Option Int → Value
  | none => (Value.int .i64 0)
  | some u => (Value.int .i64 (u))
set_option maxRecDepth 100000 in
set_option maxHeartbeats 1000000 in
theorem Get_any {D : Nat} {W0 : World} {cv : Value} {key : K M → Int} (mb : Nat) (L : List (K M × Int)) (hcc : L = [] ∨ Cmp D W0 cv key) (k : K M) (W : World) (hL : L.length ≤ 1000000) (h : Mp D W0 cv key mb L W) :
    Calls Try.prog 31 #[(Value.pointer (some ⟨mb, 2, none⟩)), (Value.string (k).1)] W fun e w' => e = .returned (.tuple #[optV (getL key k L), .bool (getL key k L).isSome]) ∧ Below W.heap.size W w' := by
  have fn := mfind_any mb L hcc k W hL h
  go_enter_defers Try.func31, Try.ntmps31
  cases hg : getL key k L with
  | none =>
    rw [hg] at fn
    go_wp2_with (go_at_call 38; (with_reducible refine fn.mono ?_); rintro e x1 ⟨⟨q, hx1⟩, r, rfl, hr⟩; have hb1 : Below W.heap.size W x1 := hx1 ▸ below_drewN W q; clear hx1; obtain rfl : r = none := hr)
    refine leaves_cons (f := 37) (args := #[]) (by simp) (by simp [go_sem]) ?_
    refine (getD_any _).mono ?_
    rintro e u' w'' ⟨rfl, rfl, rfl⟩
    exact ⟨_, results_tmp2 rfl _ _ _, rfl, below_on hb1 (below_alloc _ _)⟩
  | some u =>
    rw [hg] at fn
    go_wp2_with (go_at_call 38; (with_reducible refine fn.mono ?_); rintro e x1 ⟨⟨q, hx1⟩, r, rfl, hr⟩; subst x1; obtain ⟨b, a, n, lp, rp, rfl, _, hn⟩ := hr; have c1 := (hn.later (below_drewN W q)).c1; clear hn)
    refine leaves_cons (f := 37) (args := #[]) (by simp) (by simp [go_sem]) ?_
    refine (getD_any _).mono ?_
    rintro e u' w'' ⟨rfl, rfl, rfl⟩
    exact ⟨_, results_tmp2 rfl _ _ _, rfl, below_drewN W q⟩

end Go.Proofs.Ytglfmbpcapendaa.S
