import Derived.Test.YtieohdlmighmkaaJS
import Derived.Test.YtieohdlmighmkaaEq2
import Derived.Shelf.RegionOpen
import Derived.TacticsInMore
import Derived.BigRegionIn
import Derived.Stop.RegionWithIn
namespace Go.Proofs.Ytieohdlmighmkaa.S
open Go Go.RowKit Go.Shelf Go.Proofs Go.Proofs.Ytieohdlmighmkaa
attribute [local go_sem] Oper.semAt_some
attribute [local go_sem] eql26n eql26f wide_fn wide_depth

/-- A tree with its nodes' blocks. -/
inductive Lb where
  | nil
  | nd (b : Nat) (k : Int) (v : ByteArray) (l r : Lb)
namespace Lb
def ptr : Lb → Option Addr
  | nil => none
  | nd b _ _ _ _ => some ⟨b, 0, none⟩
def has : Lb → Nat → Prop
  | nil, _ => False
  | nd b _ _ l r, x => x = b ∨ l.has x ∨ r.has x
def toL : Lb → List (Int × ByteArray)
  | nil => []
  | nd _ k v l r => l.toL ++ (k, v) :: r.toL
end Lb
def LbIn (W : World) : Lb → Prop
  | .nil => True
  | .nd b k v l r => (∃ n, Nd W b k v n l.ptr r.ptr) ∧ LbIn W l ∧ LbIn W r
theorem LbIn.lt {W : World} : ∀ {u : Lb}, LbIn W u → ∀ b, u.has b → b < W.heap.size
  | .nil, _, _, h => h.elim
  | .nd _ _ _ _ _, ⟨⟨_, hn⟩, hl, hr⟩, b, h => by
    rcases h with rfl | h | h
    · exact hn.lt
    · exact hl.lt b h
    · exact hr.lt b h
theorem LbIn.of {W W' : World} : ∀ {u : Lb}, LbIn W u → (∀ b, u.has b → W'.heap[b]? = W.heap[b]?) → LbIn W' u
  | .nil, _, _ => trivial
  | .nd _ _ _ _ _, ⟨⟨n, hn⟩, hl, hr⟩, h => ⟨⟨n, hn.of (h _ (.inl rfl))⟩, hl.of (fun b hb => h b (.inr (.inl hb))), hr.of (fun b hb => h b (.inr (.inr hb)))⟩
theorem tr_lb {W : World} {B : Nat} : ∀ {t : T ByteArray} {p : Option Addr}, Tr W B t p → ∃ u : Lb, u.ptr = p ∧ u.toL = t.toL ∧ LbIn W u
  | .nil, _, h => ⟨.nil, Eq.symm h, rfl, trivial⟩
  | .nd k v _ _, _, ⟨b, _, _, rfl, _, hh, hl, hr⟩ => by
    obtain ⟨ul, rfl, hl2, hl3⟩ := tr_lb hl
    obtain ⟨ur, rfl, hr2, hr3⟩ := tr_lb hr
    exact ⟨.nd b k v ul ur, rfl, by simp [Lb.toL, T.toL, hl2, hr2], ⟨_, nd_of hh⟩, hl3, hr3⟩
def enc2 (x : Int × ByteArray) : Array Value := #[(Value.int .i64 (x.1)), (Value.string (x.2))]

/-- How walk ends. -/
def WalkPost (J Jx : Nat → (Nat → Prop) → World → Prop) (S : Nat → Prop) (W : World) (n m : Nat) (e : Ending) (W2 : World) : Prop :=
  ∃ S2, Grows S S2 W ∧ InW S2 W2 ∧ Chg S W W2 ∧ ((e = .returned (.bool true) ∧ J n S2 W2) ∨ (e = .returned (.bool false) ∧ ∃ k, 0 < k ∧ k ≤ m ∧ Jx k S2 W2))
set_option maxRecDepth 100000 in
set_option maxHeartbeats 1000000 in
theorem walk_any (xs : List (Int × ByteArray)) (yf : Fn) (yb : Array Value) (J Jx : Nat → (Nat → Prop) → World → Prop) (S : Nat → Prop) (W : World)
    (hJ : ∀ k, Loc (J k))
    (hY : ∀ k (hk : k < xs.length) S1 W1, InW S1 W1 → Chg S W W1 → J k S1 W1 →
      CallsV Try.prog (.func yf #[] yb) (enc2 xs[k]) W1 fun e W2 => ∃ S2, Grows S1 S2 W1 ∧ InW S2 W2 ∧ Chg S1 W1 W2 ∧
        ((e = .returned (.bool true) ∧ J (k + 1) S2 W2) ∨ (e = .returned (.bool false) ∧ Jx (k + 1) S2 W2))) :
    ∀ (u : Lb) (pre post : List (Int × ByteArray)) (S1 : Nat → Prop) (W1 : World), xs = pre ++ u.toL ++ post → LbIn W u → (∀ b, u.has b → ¬ S b) → Grows S S1 W → InW S1 W1 → Chg S W W1 → J pre.length S1 W1 →
      Calls Try.prog 45 #[.pointer u.ptr, .func yf #[] yb] W1 (WalkPost J Jx S W (pre.length + u.toL.length) xs.length)
  | .nil, pre, post, S1, W1, _, _, _, hg, hi, hc, hj => by
    show Calls Try.prog 45 #[.pointer none, .func yf #[] yb] W1 _
    refine (callsIn_wide (n := 0)).1 ?_
    refine callsIn_of_wp Try.func45 rfl trivial ?_ rfl
    simp only [Try.ntmps45, List.size_toArray, List.length_cons, List.length_nil, Nat.reduceAdd, Nat.reduceSub, Array.replicate_succ, Array.replicate_zero, List.push_toArray, List.append_toArray, List.nil_append, List.cons_append]
    gi_wp2_with fail
    refine wpIn_region_any (by kernel_rfl) ?_
    refine wpAnyIn_take (i := 0) (v := (.pointer none)) rfl rfl (by kernel_rfl) (by kernel_rfl) (by kernel_rfl) (fun _ _ _ h => h) ⟨.inl ⟨by kernel_rfl, fun w => by first | rfl | kernel_rfl⟩, fun _ => rfl⟩ ?_
    go_simp
    refine wpAnyIn_take (i := 1) (v := (.bool true)) rfl rfl (by kernel_rfl) (by kernel_rfl) (by kernel_rfl) (fun _ _ _ h => h) ⟨.inl ⟨by kernel_rfl, fun w => by first | rfl | kernel_rfl⟩, fun _ => rfl⟩ ?_
    go_simp
    refine wpAnyIn_take (i := 2) (v := (.bool true)) rfl rfl (by kernel_rfl) (by kernel_rfl) (by kernel_rfl) (fun _ _ _ h => h) ⟨.inl ⟨by kernel_rfl, fun w => by first | rfl | kernel_rfl⟩, fun _ => rfl⟩ ?_
    go_simp
    refine wpAnyIn_take (i := 3) rfl rfl (by kernel_rfl) (by kernel_rfl) (by kernel_rfl) (fun _ _ _ h => h) ⟨.inr ⟨by kernel_rfl, rfl⟩, fun _ => rfl⟩ ?_
    go_simp
    refine wpAnyIn_take (i := 4) rfl rfl (by kernel_rfl) (by kernel_rfl) (by kernel_rfl) (fun _ _ _ h => h) ⟨.inr ⟨by kernel_rfl, rfl⟩, fun _ => rfl⟩ ?_
    go_simp
    refine wpAnyIn_take (i := 5) rfl rfl (by kernel_rfl) (by kernel_rfl) (by kernel_rfl) (fun _ _ _ h => h) ⟨.inr ⟨by kernel_rfl, rfl⟩, fun _ => rfl⟩ ?_
    go_simp
    refine wpAnyIn_take (i := 6) rfl rfl (by kernel_rfl) (by kernel_rfl) (by kernel_rfl) (fun _ _ _ h => h) ⟨.inr ⟨by kernel_rfl, rfl⟩, fun _ => rfl⟩ ?_
    go_simp
    refine wpAnyIn_take (i := 7) rfl rfl (by kernel_rfl) (by kernel_rfl) (by kernel_rfl) (fun _ _ _ h => h) ⟨.inr ⟨by kernel_rfl, rfl⟩, fun _ => rfl⟩ ?_
    go_simp
    refine wpAnyIn_ready (rs := [8]) (by kernel_rfl) (by simp) ?_
    refine AllReadyIn.cons rfl (fun K' hK => ?_) AllReadyIn.nil
    rw [if_neg (nt (by kernel_rfl))]
    refine ⟨fun _ _ => trivial, hK _ _ ?_⟩
    clear hK K'
    go_simp
    refine wpAnyIn_take (i := 9) rfl rfl (by kernel_rfl) (by kernel_rfl) (by kernel_rfl) (fun _ _ _ h => h) ⟨.inr ⟨by kernel_rfl, rfl⟩, fun _ => rfl⟩ ?_
    go_simp
    refine wpAnyIn_take (i := 10) rfl rfl (by kernel_rfl) (by kernel_rfl) (by kernel_rfl) (fun _ _ _ h => h) ⟨.inr ⟨by kernel_rfl, rfl⟩, fun _ => rfl⟩ ?_
    go_simp
    refine wpAnyIn_take (i := 11) rfl rfl (by kernel_rfl) (by kernel_rfl) (by kernel_rfl) (fun _ _ _ h => h) ⟨.inr ⟨by kernel_rfl, rfl⟩, fun _ => rfl⟩ ?_
    go_simp
    refine wpAnyIn_take (i := 12) rfl rfl (by kernel_rfl) (by kernel_rfl) (by kernel_rfl) (fun _ _ _ h => h) ⟨.inr ⟨by kernel_rfl, rfl⟩, fun _ => rfl⟩ ?_
    go_simp
    refine wpAnyIn_take (i := 13) rfl rfl (by kernel_rfl) (by kernel_rfl) (by kernel_rfl) (fun _ _ _ h => h) ⟨.inr ⟨by kernel_rfl, rfl⟩, fun _ => rfl⟩ ?_
    go_simp
    refine wpAnyIn_take (i := 14) rfl rfl (by kernel_rfl) (by kernel_rfl) (by kernel_rfl) (fun _ _ _ h => h) ⟨.inr ⟨by kernel_rfl, rfl⟩, fun _ => rfl⟩ ?_
    go_simp
    refine wpAnyIn_take (i := 15) rfl rfl (by kernel_rfl) (by kernel_rfl) (by kernel_rfl) (fun _ _ _ h => h) ⟨.inr ⟨by kernel_rfl, rfl⟩, fun _ => rfl⟩ ?_
    go_simp
    refine wpAnyIn_take (i := 16) rfl rfl (by kernel_rfl) (by kernel_rfl) (by kernel_rfl) (fun _ _ _ h => h) ⟨.inr ⟨by kernel_rfl, rfl⟩, fun _ => rfl⟩ ?_
    go_simp
    refine wpAnyIn_take (i := 17) rfl rfl (by kernel_rfl) (by kernel_rfl) (by kernel_rfl) (fun _ _ _ h => h) ⟨.inr ⟨by kernel_rfl, rfl⟩, fun _ => rfl⟩ ?_
    go_simp
    refine wpAnyIn_take (i := 18) rfl rfl (by kernel_rfl) (by kernel_rfl) (by kernel_rfl) (fun _ _ _ h => h) ⟨.inr ⟨by kernel_rfl, rfl⟩, fun _ => rfl⟩ ?_
    go_simp
    refine wpAnyIn_ready (rs := [19]) (by kernel_rfl) (by simp) ?_
    refine AllReadyIn.cons rfl (fun K' hK => ?_) AllReadyIn.nil
    rw [if_neg (nt (by kernel_rfl))]
    refine ⟨fun _ _ => trivial, hK _ _ ?_⟩
    clear hK K'
    go_simp
    refine wpAnyIn_take (i := 20) rfl rfl (by kernel_rfl) (by kernel_rfl) (by kernel_rfl) (fun _ _ _ h => h) ⟨.inr ⟨by kernel_rfl, rfl⟩, fun _ => rfl⟩ ?_
    go_simp
    refine wpAnyIn_take (i := 21) rfl rfl (by kernel_rfl) (by kernel_rfl) (by kernel_rfl) (fun _ _ _ h => h) ⟨.inr ⟨by kernel_rfl, rfl⟩, fun _ => rfl⟩ ?_
    go_simp
    refine wpAnyIn_take (i := 22) rfl rfl (by kernel_rfl) (by kernel_rfl) (by kernel_rfl) (fun _ _ _ h => h) ⟨.inr ⟨by kernel_rfl, rfl⟩, fun _ => rfl⟩ ?_
    go_simp
    refine wpAnyIn_take (i := 23) rfl rfl (by kernel_rfl) (by kernel_rfl) (by kernel_rfl) (fun _ _ _ h => h) ⟨.inr ⟨by kernel_rfl, rfl⟩, fun _ => rfl⟩ ?_
    go_simp
    refine wpAnyIn_take (i := 24) rfl rfl (by kernel_rfl) (by kernel_rfl) (by kernel_rfl) (fun _ _ _ h => h) ⟨.inr ⟨by kernel_rfl, rfl⟩, fun _ => rfl⟩ ?_
    go_simp
    refine wpAnyIn_take (i := 25) rfl rfl (by kernel_rfl) (by kernel_rfl) (by kernel_rfl) (fun _ _ _ h => h) ⟨.inr ⟨by kernel_rfl, rfl⟩, fun _ => rfl⟩ ?_
    go_simp
    refine wpAnyIn_take (i := 26) rfl rfl (by kernel_rfl) (by kernel_rfl) (by kernel_rfl) (fun _ _ _ h => h) ⟨.inr ⟨by kernel_rfl, rfl⟩, fun _ => rfl⟩ ?_
    go_simp
    refine wpAnyIn_ready (rs := [27]) (by kernel_rfl) (by simp) ?_
    refine AllReadyIn.cons rfl (fun K' hK => ?_) AllReadyIn.nil
    rw [if_neg (nt (by kernel_rfl))]
    refine ⟨fun _ _ => trivial, hK _ _ ?_⟩
    clear hK K'
    go_simp
    refine wpAnyIn_take (i := 28) rfl rfl (by kernel_rfl) (by kernel_rfl) (by kernel_rfl) (fun _ _ _ h => h) ⟨.inr ⟨by kernel_rfl, rfl⟩, fun _ => rfl⟩ ?_
    go_simp
    refine wpAnyIn_take (i := 29) (v := (.bool true)) rfl rfl (by kernel_rfl) (by kernel_rfl) (by kernel_rfl) (fun _ _ _ h => h) ⟨.inl ⟨by kernel_rfl, fun w => by first | rfl | kernel_rfl⟩, fun _ => rfl⟩ ?_
    go_simp
    refine wpAnyIn_take (i := 30) (v := (.bool true)) rfl rfl (by kernel_rfl) (by kernel_rfl) (by kernel_rfl) (fun _ _ _ h => h) ⟨.inl ⟨by kernel_rfl, fun w => by first | rfl | kernel_rfl⟩, fun _ => rfl⟩ ?_
    go_simp
    refine wpAnyIn_done (by kernel_rfl) ?_ _
    gi_wp2_with fail
    go_ret
    exact ⟨S1, hg, hi, hc.drew, .inl ⟨rfl, hJ _ S1 W1 _ hj hi (Nat.le_refl _) (fun _ _ => rfl)⟩⟩
  | .nd b k v l r, pre, post, S1, W1, hx, hin, hnS, hg, hi, hc, hj => by
    obtain ⟨⟨n, hn⟩, hl, hr⟩ := hin
    have hcell : ∀ w, Chg S W w → Nd w b k v n l.ptr r.ptr := fun w h => hn.of (h.block b hn.lt (hnS b (.inl rfl)))
    have c3d : W1.drew.cell? ⟨b, 3, none⟩ = some (.pointer l.ptr) := (hcell _ hc.drew).c3
    have ihl := walk_any xs yf yb J Jx S W hJ hY l pre ((k, v) :: r.toL ++ post) S1 W1.drew (by simp [hx, Lb.toL]) hl (fun x h => hnS x (.inr (.inl h))) hg hi hc.drew (hJ _ S1 W1 _ hj hi (Nat.le_refl _) (fun _ _ => rfl))
    have ihr := walk_any xs yf yb J Jx S W hJ hY r (pre ++ l.toL ++ [(k, v)]) post
    have hkl : pre.length + l.toL.length < xs.length := by simp [hx, Lb.toL]
    have hxk : xs[pre.length + l.toL.length] = (k, v) := by
      have : xs[pre.length + l.toL.length]? = some (k, v) := by
        rw [hx, Lb.toL, List.append_assoc, List.getElem?_append_right (by omega), show pre.length + l.toL.length - pre.length = l.toL.length by omega, List.append_assoc, List.getElem?_append_right (by omega)]
        simp
      rw [List.getElem?_eq_getElem hkl] at this
      exact Option.some.inj this
    have hYk := hY _ hkl
    rw [hxk] at hYk
    show Calls Try.prog 45 #[(Value.pointer (some ⟨b, 0, none⟩)), .func yf #[] yb] W1 _
    refine (callsIn_wide (n := 0)).1 ?_
    refine callsIn_of_wp Try.func45 rfl trivial ?_ rfl
    simp only [Try.ntmps45, List.size_toArray, List.length_cons, List.length_nil, Nat.reduceAdd, Nat.reduceSub, Array.replicate_succ, Array.replicate_zero, List.push_toArray, List.append_toArray, List.nil_append, List.cons_append]
    gi_wp2_with fail
    refine wpIn_region_any (by kernel_rfl) ?_
    refine wpAnyIn_take (i := 0) (v := (Value.pointer (some ⟨b, 0, none⟩))) rfl rfl (by kernel_rfl) (by kernel_rfl) (by kernel_rfl) (fun _ _ _ h => h) ⟨.inl ⟨by kernel_rfl, fun w => by first | rfl | kernel_rfl⟩, fun _ => rfl⟩ ?_
    go_simp
    refine wpAnyIn_take (i := 1) (v := (.bool false)) rfl rfl (by kernel_rfl) (by kernel_rfl) (by kernel_rfl) (fun _ _ _ h => h) ⟨.inl ⟨by kernel_rfl, fun w => by first | rfl | kernel_rfl⟩, fun _ => rfl⟩ ?_
    go_simp
    refine wpAnyIn_take (i := 2) (v := (.bool false)) rfl rfl (by kernel_rfl) (by kernel_rfl) (by kernel_rfl) (fun _ _ _ h => h) ⟨.inl ⟨by kernel_rfl, fun w => by first | rfl | kernel_rfl⟩, fun _ => rfl⟩ ?_
    go_simp
    refine wpAnyIn_take (i := 3) (v := (Value.pointer (some ⟨b, 0, none⟩))) rfl rfl (by kernel_rfl) (by kernel_rfl) (by kernel_rfl) (fun _ _ _ h => h) ⟨.inl ⟨by kernel_rfl, fun w => by first | rfl | kernel_rfl⟩, fun _ => rfl⟩ ?_
    go_simp
    refine wpAnyIn_take (i := 4) (v := (Value.pointer (some ⟨b, 0, none⟩))) rfl rfl (by kernel_rfl) (by kernel_rfl) (by kernel_rfl) (fun _ _ _ h => h) ⟨.inl ⟨by kernel_rfl, fun w => by first | rfl | kernel_rfl⟩, fun _ => rfl⟩ ?_
    go_simp
    refine wpAnyIn_take (i := 5) (v := (.pointer (some ⟨b, 3, none⟩))) rfl rfl (by kernel_rfl) (by kernel_rfl) (by kernel_rfl) (fun _ _ _ h => h) ⟨.inl ⟨by kernel_rfl, fun w => by first | rfl | kernel_rfl⟩, fun _ => rfl⟩ ?_
    go_simp
    refine wpAnyIn_take (i := 7) (v := (.func yf #[] yb)) rfl rfl (by kernel_rfl) (by kernel_rfl) (by kernel_rfl) (fun _ _ _ h => h) ⟨.inl ⟨by kernel_rfl, fun w => by first | rfl | kernel_rfl⟩, fun _ => rfl⟩ ?_
    go_simp
    refine wpAnyIn_ready (rs := [6]) (by kernel_rfl) (by simp) ?_
    refine AllReadyIn.cons rfl (fun K' hK => ?_) AllReadyIn.nil
    rw [if_pos (by kernel_rfl)]
    refine operIn_load (by exact Try.isAgg70 _) rfl c3d ?_
    refine hK _ _ ?_
    clear hK K'
    go_simp
    refine wpAnyIn_ready (rs := [8]) (by kernel_rfl) (by simp) ?_
    refine AllReadyIn.cons rfl (fun K' hK => ?_) AllReadyIn.nil
    rw [if_pos (by kernel_rfl)]
    refine operIn_callV rfl (.func (.func 45) #[] #[]) [.pointer l.ptr, .func yf #[] yb] rfl rfl ?_
    refine (show CallsV Try.prog (.func (.func 45) #[] #[]) #[.pointer l.ptr, .func yf #[] yb] W1.drew _ from .inl ⟨45, #[], rfl, enters_of Try.func45 (by kernel_rfl) rfl, ihl⟩).mono ?_
    rintro e w2 ⟨S2, hg2, hi2, hc2, ⟨rfl, hj2⟩ | ⟨rfl, q, hq0, hq1, hjx⟩⟩
    · refine ⟨_, rfl, hK _ _ ?_⟩
      clear hK K'
      go_simp
      have hn2 := hcell w2 hc2
      refine wpAnyIn_take (i := 9) (v := (.bool true)) rfl rfl (by kernel_rfl) (by kernel_rfl) (by kernel_rfl) (fun _ _ _ h => h) ⟨.inl ⟨by kernel_rfl, fun w => by first | rfl | kernel_rfl⟩, fun _ => rfl⟩ ?_
      go_simp
      refine wpAnyIn_take (i := 10) (v := (.func yf #[] yb)) rfl rfl (by kernel_rfl) (by kernel_rfl) (by kernel_rfl) (fun _ _ _ h => h) ⟨.inl ⟨by kernel_rfl, fun w => by first | rfl | kernel_rfl⟩, fun _ => rfl⟩ ?_
      go_simp
      refine wpAnyIn_take (i := 11) (v := (Value.pointer (some ⟨b, 0, none⟩))) rfl rfl (by kernel_rfl) (by kernel_rfl) (by kernel_rfl) (fun _ _ _ h => h) ⟨.inl ⟨by kernel_rfl, fun w => by first | rfl | kernel_rfl⟩, fun _ => rfl⟩ ?_
      go_simp
      refine wpAnyIn_take (i := 12) (v := (Value.pointer (some ⟨b, 0, none⟩))) rfl rfl (by kernel_rfl) (by kernel_rfl) (by kernel_rfl) (fun _ _ _ h => h) ⟨.inl ⟨by kernel_rfl, fun w => by first | rfl | kernel_rfl⟩, fun _ => rfl⟩ ?_
      go_simp
      refine wpAnyIn_take (i := 13) (v := (.pointer (some ⟨b, 0, none⟩))) rfl rfl (by kernel_rfl) (by kernel_rfl) (by kernel_rfl) (fun _ _ _ h => h) ⟨.inl ⟨by kernel_rfl, fun w => by first | rfl | kernel_rfl⟩, fun _ => rfl⟩ ?_
      go_simp
      refine wpAnyIn_take (i := 15) (v := (Value.pointer (some ⟨b, 0, none⟩))) rfl rfl (by kernel_rfl) (by kernel_rfl) (by kernel_rfl) (fun _ _ _ h => h) ⟨.inl ⟨by kernel_rfl, fun w => by first | rfl | kernel_rfl⟩, fun _ => rfl⟩ ?_
      go_simp
      refine wpAnyIn_take (i := 16) (v := (Value.pointer (some ⟨b, 0, none⟩))) rfl rfl (by kernel_rfl) (by kernel_rfl) (by kernel_rfl) (fun _ _ _ h => h) ⟨.inl ⟨by kernel_rfl, fun w => by first | rfl | kernel_rfl⟩, fun _ => rfl⟩ ?_
      go_simp
      refine wpAnyIn_take (i := 17) (v := (.pointer (some ⟨b, 1, none⟩))) rfl rfl (by kernel_rfl) (by kernel_rfl) (by kernel_rfl) (fun _ _ _ h => h) ⟨.inl ⟨by kernel_rfl, fun w => by first | rfl | kernel_rfl⟩, fun _ => rfl⟩ ?_
      go_simp
      refine wpAnyIn_ready (rs := [14, 18]) (by kernel_rfl) (by simp) ?_
      refine AllReadyIn.cons rfl (fun K' hK => ?_) (AllReadyIn.cons rfl (fun K' hK => ?_) AllReadyIn.nil)
      · rw [if_pos (by kernel_rfl)]
        refine operIn_load (by exact Try.isAgg3 _) rfl hn2.c0 ?_
        refine hK _ _ ?_
        clear hK K'
        go_simp
        refine wpAnyIn_ready (rs := [18]) (by kernel_rfl) (by simp) ?_
        refine AllReadyIn.cons rfl (fun K' hK => ?_) AllReadyIn.nil
        rw [if_pos (by kernel_rfl)]
        refine operIn_load (by exact Try.isAgg9 _) rfl hn2.c1 ?_
        refine hK _ _ ?_
        clear hK K'
        go_simp
        refine wpAnyIn_ready (rs := [19]) (by kernel_rfl) (by simp) ?_
        refine AllReadyIn.cons rfl (fun K' hK => ?_) AllReadyIn.nil
        rw [if_pos (by kernel_rfl)]
        refine operIn_callV rfl (.func yf #[] yb) [(Value.int .i64 (k)), (Value.string (v))] rfl rfl ?_
        refine (hYk S2 w2 hi2 hc2 hj2).mono ?_
        rintro e w3 ⟨S3, hg3, hi3, hc3, ⟨rfl, hj3⟩ | ⟨rfl, hjx⟩⟩
        · have hgS3 := hg2.trans hg3 hc2.size
          have hcW3 := hc2.trans hc3 (fun _ _ x => x) (fun x hx' h => (hg2 x h).resolve_right (by omega))
          have hn3 := hcell w3 hcW3
          refine ⟨_, rfl, hK _ _ ?_⟩
          clear hK K'
          go_simp
          refine wpAnyIn_take (i := 20) (v := (.bool true)) rfl rfl (by kernel_rfl) (by kernel_rfl) (by kernel_rfl) (fun _ _ _ h => h) ⟨.inl ⟨by kernel_rfl, fun w => by first | rfl | kernel_rfl⟩, fun _ => rfl⟩ ?_
          go_simp
          refine wpAnyIn_take (i := 21) (v := (.bool true)) rfl rfl (by kernel_rfl) (by kernel_rfl) (by kernel_rfl) (fun _ _ _ h => h) ⟨.inl ⟨by kernel_rfl, fun w => by first | rfl | kernel_rfl⟩, fun _ => rfl⟩ ?_
          go_simp
          refine wpAnyIn_take (i := 22) (v := (Value.pointer (some ⟨b, 0, none⟩))) rfl rfl (by kernel_rfl) (by kernel_rfl) (by kernel_rfl) (fun _ _ _ h => h) ⟨.inl ⟨by kernel_rfl, fun w => by first | rfl | kernel_rfl⟩, fun _ => rfl⟩ ?_
          go_simp
          refine wpAnyIn_take (i := 23) (v := (Value.pointer (some ⟨b, 0, none⟩))) rfl rfl (by kernel_rfl) (by kernel_rfl) (by kernel_rfl) (fun _ _ _ h => h) ⟨.inl ⟨by kernel_rfl, fun w => by first | rfl | kernel_rfl⟩, fun _ => rfl⟩ ?_
          go_simp
          refine wpAnyIn_take (i := 24) (v := (.pointer (some ⟨b, 4, none⟩))) rfl rfl (by kernel_rfl) (by kernel_rfl) (by kernel_rfl) (fun _ _ _ h => h) ⟨.inl ⟨by kernel_rfl, fun w => by first | rfl | kernel_rfl⟩, fun _ => rfl⟩ ?_
          go_simp
          refine wpAnyIn_take (i := 26) (v := (.func yf #[] yb)) rfl rfl (by kernel_rfl) (by kernel_rfl) (by kernel_rfl) (fun _ _ _ h => h) ⟨.inl ⟨by kernel_rfl, fun w => by first | rfl | kernel_rfl⟩, fun _ => rfl⟩ ?_
          go_simp
          refine wpAnyIn_ready (rs := [25]) (by kernel_rfl) (by simp) ?_
          refine AllReadyIn.cons rfl (fun K' hK => ?_) AllReadyIn.nil
          rw [if_pos (by kernel_rfl)]
          refine operIn_load (by exact Try.isAgg70 _) rfl hn3.c4 ?_
          refine hK _ _ ?_
          clear hK K'
          go_simp
          have ihr' := ihr S3 w3 (by simp [hx, Lb.toL]) hr (fun x h => hnS x (.inr (.inr h))) hgS3 hi3 hcW3 (by simpa [Nat.add_assoc] using hj3)
          refine wpAnyIn_ready (rs := [27]) (by kernel_rfl) (by simp) ?_
          refine AllReadyIn.cons rfl (fun K' hK => ?_) AllReadyIn.nil
          rw [if_pos (by kernel_rfl)]
          refine operIn_callV rfl (.func (.func 45) #[] #[]) [.pointer r.ptr, .func yf #[] yb] rfl rfl ?_
          refine (show CallsV Try.prog (.func (.func 45) #[] #[]) #[.pointer r.ptr, .func yf #[] yb] w3 _ from .inl ⟨45, #[], rfl, enters_of Try.func45 (by kernel_rfl) rfl, ihr'⟩).mono ?_
          rintro e w4 ⟨S4, hg4, hi4, hc4, ⟨rfl, hj4⟩ | ⟨rfl, q, hq0, hq1, hjx⟩⟩
          · refine ⟨_, rfl, hK _ _ ?_⟩
            clear hK K'
            go_simp
            refine wpAnyIn_take (i := 28) (v := (.bool true)) rfl rfl (by kernel_rfl) (by kernel_rfl) (by kernel_rfl) (fun _ _ _ h => h) ⟨.inl ⟨by kernel_rfl, fun w => by first | rfl | kernel_rfl⟩, fun _ => rfl⟩ ?_
            go_simp
            refine wpAnyIn_take (i := 29) (v := (.bool true)) rfl rfl (by kernel_rfl) (by kernel_rfl) (by kernel_rfl) (fun _ _ _ h => h) ⟨.inl ⟨by kernel_rfl, fun w => by first | rfl | kernel_rfl⟩, fun _ => rfl⟩ ?_
            go_simp
            refine wpAnyIn_take (i := 30) (v := (.bool true)) rfl rfl (by kernel_rfl) (by kernel_rfl) (by kernel_rfl) (fun _ _ _ h => h) ⟨.inl ⟨by kernel_rfl, fun w => by first | rfl | kernel_rfl⟩, fun _ => rfl⟩ ?_
            go_simp
            refine wpAnyIn_done (by kernel_rfl) ?_ _
            gi_wp2_with fail
            go_ret
            exact ⟨S4, hg4, hi4, hc4, .inl ⟨rfl, by simpa [Lb.toL, Nat.add_assoc, Nat.add_comm, Nat.add_left_comm] using hj4⟩⟩
          · refine ⟨_, rfl, hK _ _ ?_⟩
            clear hK K'
            go_simp
            refine wpAnyIn_take (i := 28) (v := (.bool false)) rfl rfl (by kernel_rfl) (by kernel_rfl) (by kernel_rfl) (fun _ _ _ h => h) ⟨.inl ⟨by kernel_rfl, fun w => by first | rfl | kernel_rfl⟩, fun _ => rfl⟩ ?_
            go_simp
            refine wpAnyIn_take (i := 29) (v := (.bool false)) rfl rfl (by kernel_rfl) (by kernel_rfl) (by kernel_rfl) (fun _ _ _ h => h) ⟨.inl ⟨by kernel_rfl, fun w => by first | rfl | kernel_rfl⟩, fun _ => rfl⟩ ?_
            go_simp
            refine wpAnyIn_take (i := 30) (v := (.bool false)) rfl rfl (by kernel_rfl) (by kernel_rfl) (by kernel_rfl) (fun _ _ _ h => h) ⟨.inl ⟨by kernel_rfl, fun w => by first | rfl | kernel_rfl⟩, fun _ => rfl⟩ ?_
            go_simp
            refine wpAnyIn_done (by kernel_rfl) ?_ _
            gi_wp2_with fail
            go_ret
            exact ⟨S4, hg4, hi4, hc4, .inr ⟨rfl, q, hq0, hq1, hjx⟩⟩
        · refine ⟨_, rfl, hK _ _ ?_⟩
          clear hK K'
          go_simp
          refine wpAnyIn_take (i := 20) (v := (.bool false)) rfl rfl (by kernel_rfl) (by kernel_rfl) (by kernel_rfl) (fun _ _ _ h => h) ⟨.inl ⟨by kernel_rfl, fun w => by first | rfl | kernel_rfl⟩, fun _ => rfl⟩ ?_
          go_simp
          refine wpAnyIn_take (i := 21) (v := (.bool false)) rfl rfl (by kernel_rfl) (by kernel_rfl) (by kernel_rfl) (fun _ _ _ h => h) ⟨.inl ⟨by kernel_rfl, fun w => by first | rfl | kernel_rfl⟩, fun _ => rfl⟩ ?_
          go_simp
          refine wpAnyIn_take (i := 22) rfl rfl (by kernel_rfl) (by kernel_rfl) (by kernel_rfl) (fun _ _ _ h => h) ⟨.inr ⟨by kernel_rfl, rfl⟩, fun _ => rfl⟩ ?_
          go_simp
          refine wpAnyIn_take (i := 23) rfl rfl (by kernel_rfl) (by kernel_rfl) (by kernel_rfl) (fun _ _ _ h => h) ⟨.inr ⟨by kernel_rfl, rfl⟩, fun _ => rfl⟩ ?_
          go_simp
          refine wpAnyIn_take (i := 24) rfl rfl (by kernel_rfl) (by kernel_rfl) (by kernel_rfl) (fun _ _ _ h => h) ⟨.inr ⟨by kernel_rfl, rfl⟩, fun _ => rfl⟩ ?_
          go_simp
          refine wpAnyIn_take (i := 25) rfl rfl (by kernel_rfl) (by kernel_rfl) (by kernel_rfl) (fun _ _ _ h => h) ⟨.inr ⟨by kernel_rfl, rfl⟩, fun _ => rfl⟩ ?_
          go_simp
          refine wpAnyIn_take (i := 26) rfl rfl (by kernel_rfl) (by kernel_rfl) (by kernel_rfl) (fun _ _ _ h => h) ⟨.inr ⟨by kernel_rfl, rfl⟩, fun _ => rfl⟩ ?_
          go_simp
          refine wpAnyIn_ready (rs := [27]) (by kernel_rfl) (by simp) ?_
          refine AllReadyIn.cons rfl (fun K' hK => ?_) AllReadyIn.nil
          rw [if_neg (nt (by kernel_rfl))]
          refine ⟨fun _ _ => trivial, hK _ _ ?_⟩
          clear hK K'
          go_simp
          refine wpAnyIn_take (i := 28) (v := (.bool false)) rfl rfl (by kernel_rfl) (by kernel_rfl) (by kernel_rfl) (fun _ _ _ h => h) ⟨.inl ⟨by kernel_rfl, fun w => by first | rfl | kernel_rfl⟩, fun _ => rfl⟩ ?_
          go_simp
          refine wpAnyIn_take (i := 29) (v := (.bool false)) rfl rfl (by kernel_rfl) (by kernel_rfl) (by kernel_rfl) (fun _ _ _ h => h) ⟨.inl ⟨by kernel_rfl, fun w => by first | rfl | kernel_rfl⟩, fun _ => rfl⟩ ?_
          go_simp
          refine wpAnyIn_take (i := 30) (v := (.bool false)) rfl rfl (by kernel_rfl) (by kernel_rfl) (by kernel_rfl) (fun _ _ _ h => h) ⟨.inl ⟨by kernel_rfl, fun w => by first | rfl | kernel_rfl⟩, fun _ => rfl⟩ ?_
          go_simp
          refine wpAnyIn_done (by kernel_rfl) ?_ _
          gi_wp2_with fail
          go_ret
          exact ⟨S3, hg2.trans hg3 hc2.size, hi3, hc2.trans hc3 (fun _ _ x => x) (fun x hx' h => (hg2 x h).resolve_right (by omega)), .inr ⟨rfl, _, Nat.succ_pos _, hkl, hjx⟩⟩
      · rw [if_pos (by kernel_rfl)]
        refine operIn_load (by exact Try.isAgg9 _) rfl hn2.c1 ?_
        refine hK _ _ ?_
        clear hK K'
        go_simp
        refine wpAnyIn_ready (rs := [14]) (by kernel_rfl) (by simp) ?_
        refine AllReadyIn.cons rfl (fun K' hK => ?_) AllReadyIn.nil
        rw [if_pos (by kernel_rfl)]
        refine operIn_load (by exact Try.isAgg3 _) rfl hn2.c0 ?_
        refine hK _ _ ?_
        clear hK K'
        go_simp
        refine wpAnyIn_ready (rs := [19]) (by kernel_rfl) (by simp) ?_
        refine AllReadyIn.cons rfl (fun K' hK => ?_) AllReadyIn.nil
        rw [if_pos (by kernel_rfl)]
        refine operIn_callV rfl (.func yf #[] yb) [(Value.int .i64 (k)), (Value.string (v))] rfl rfl ?_
        refine (hYk S2 w2 hi2 hc2 hj2).mono ?_
        rintro e w3 ⟨S3, hg3, hi3, hc3, ⟨rfl, hj3⟩ | ⟨rfl, hjx⟩⟩
        · have hgS3 := hg2.trans hg3 hc2.size
          have hcW3 := hc2.trans hc3 (fun _ _ x => x) (fun x hx' h => (hg2 x h).resolve_right (by omega))
          have hn3 := hcell w3 hcW3
          refine ⟨_, rfl, hK _ _ ?_⟩
          clear hK K'
          go_simp
          refine wpAnyIn_take (i := 20) (v := (.bool true)) rfl rfl (by kernel_rfl) (by kernel_rfl) (by kernel_rfl) (fun _ _ _ h => h) ⟨.inl ⟨by kernel_rfl, fun w => by first | rfl | kernel_rfl⟩, fun _ => rfl⟩ ?_
          go_simp
          refine wpAnyIn_take (i := 21) (v := (.bool true)) rfl rfl (by kernel_rfl) (by kernel_rfl) (by kernel_rfl) (fun _ _ _ h => h) ⟨.inl ⟨by kernel_rfl, fun w => by first | rfl | kernel_rfl⟩, fun _ => rfl⟩ ?_
          go_simp
          refine wpAnyIn_take (i := 22) (v := (Value.pointer (some ⟨b, 0, none⟩))) rfl rfl (by kernel_rfl) (by kernel_rfl) (by kernel_rfl) (fun _ _ _ h => h) ⟨.inl ⟨by kernel_rfl, fun w => by first | rfl | kernel_rfl⟩, fun _ => rfl⟩ ?_
          go_simp
          refine wpAnyIn_take (i := 23) (v := (Value.pointer (some ⟨b, 0, none⟩))) rfl rfl (by kernel_rfl) (by kernel_rfl) (by kernel_rfl) (fun _ _ _ h => h) ⟨.inl ⟨by kernel_rfl, fun w => by first | rfl | kernel_rfl⟩, fun _ => rfl⟩ ?_
          go_simp
          refine wpAnyIn_take (i := 24) (v := (.pointer (some ⟨b, 4, none⟩))) rfl rfl (by kernel_rfl) (by kernel_rfl) (by kernel_rfl) (fun _ _ _ h => h) ⟨.inl ⟨by kernel_rfl, fun w => by first | rfl | kernel_rfl⟩, fun _ => rfl⟩ ?_
          go_simp
          refine wpAnyIn_take (i := 26) (v := (.func yf #[] yb)) rfl rfl (by kernel_rfl) (by kernel_rfl) (by kernel_rfl) (fun _ _ _ h => h) ⟨.inl ⟨by kernel_rfl, fun w => by first | rfl | kernel_rfl⟩, fun _ => rfl⟩ ?_
          go_simp
          refine wpAnyIn_ready (rs := [25]) (by kernel_rfl) (by simp) ?_
          refine AllReadyIn.cons rfl (fun K' hK => ?_) AllReadyIn.nil
          rw [if_pos (by kernel_rfl)]
          refine operIn_load (by exact Try.isAgg70 _) rfl hn3.c4 ?_
          refine hK _ _ ?_
          clear hK K'
          go_simp
          have ihr' := ihr S3 w3 (by simp [hx, Lb.toL]) hr (fun x h => hnS x (.inr (.inr h))) hgS3 hi3 hcW3 (by simpa [Nat.add_assoc] using hj3)
          refine wpAnyIn_ready (rs := [27]) (by kernel_rfl) (by simp) ?_
          refine AllReadyIn.cons rfl (fun K' hK => ?_) AllReadyIn.nil
          rw [if_pos (by kernel_rfl)]
          refine operIn_callV rfl (.func (.func 45) #[] #[]) [.pointer r.ptr, .func yf #[] yb] rfl rfl ?_
          refine (show CallsV Try.prog (.func (.func 45) #[] #[]) #[.pointer r.ptr, .func yf #[] yb] w3 _ from .inl ⟨45, #[], rfl, enters_of Try.func45 (by kernel_rfl) rfl, ihr'⟩).mono ?_
          rintro e w4 ⟨S4, hg4, hi4, hc4, ⟨rfl, hj4⟩ | ⟨rfl, q, hq0, hq1, hjx⟩⟩
          · refine ⟨_, rfl, hK _ _ ?_⟩
            clear hK K'
            go_simp
            refine wpAnyIn_take (i := 28) (v := (.bool true)) rfl rfl (by kernel_rfl) (by kernel_rfl) (by kernel_rfl) (fun _ _ _ h => h) ⟨.inl ⟨by kernel_rfl, fun w => by first | rfl | kernel_rfl⟩, fun _ => rfl⟩ ?_
            go_simp
            refine wpAnyIn_take (i := 29) (v := (.bool true)) rfl rfl (by kernel_rfl) (by kernel_rfl) (by kernel_rfl) (fun _ _ _ h => h) ⟨.inl ⟨by kernel_rfl, fun w => by first | rfl | kernel_rfl⟩, fun _ => rfl⟩ ?_
            go_simp
            refine wpAnyIn_take (i := 30) (v := (.bool true)) rfl rfl (by kernel_rfl) (by kernel_rfl) (by kernel_rfl) (fun _ _ _ h => h) ⟨.inl ⟨by kernel_rfl, fun w => by first | rfl | kernel_rfl⟩, fun _ => rfl⟩ ?_
            go_simp
            refine wpAnyIn_done (by kernel_rfl) ?_ _
            gi_wp2_with fail
            go_ret
            exact ⟨S4, hg4, hi4, hc4, .inl ⟨rfl, by simpa [Lb.toL, Nat.add_assoc, Nat.add_comm, Nat.add_left_comm] using hj4⟩⟩
          · refine ⟨_, rfl, hK _ _ ?_⟩
            clear hK K'
            go_simp
            refine wpAnyIn_take (i := 28) (v := (.bool false)) rfl rfl (by kernel_rfl) (by kernel_rfl) (by kernel_rfl) (fun _ _ _ h => h) ⟨.inl ⟨by kernel_rfl, fun w => by first | rfl | kernel_rfl⟩, fun _ => rfl⟩ ?_
            go_simp
            refine wpAnyIn_take (i := 29) (v := (.bool false)) rfl rfl (by kernel_rfl) (by kernel_rfl) (by kernel_rfl) (fun _ _ _ h => h) ⟨.inl ⟨by kernel_rfl, fun w => by first | rfl | kernel_rfl⟩, fun _ => rfl⟩ ?_
            go_simp
            refine wpAnyIn_take (i := 30) (v := (.bool false)) rfl rfl (by kernel_rfl) (by kernel_rfl) (by kernel_rfl) (fun _ _ _ h => h) ⟨.inl ⟨by kernel_rfl, fun w => by first | rfl | kernel_rfl⟩, fun _ => rfl⟩ ?_
            go_simp
            refine wpAnyIn_done (by kernel_rfl) ?_ _
            gi_wp2_with fail
            go_ret
            exact ⟨S4, hg4, hi4, hc4, .inr ⟨rfl, q, hq0, hq1, hjx⟩⟩
        · refine ⟨_, rfl, hK _ _ ?_⟩
          clear hK K'
          go_simp
          refine wpAnyIn_take (i := 20) (v := (.bool false)) rfl rfl (by kernel_rfl) (by kernel_rfl) (by kernel_rfl) (fun _ _ _ h => h) ⟨.inl ⟨by kernel_rfl, fun w => by first | rfl | kernel_rfl⟩, fun _ => rfl⟩ ?_
          go_simp
          refine wpAnyIn_take (i := 21) (v := (.bool false)) rfl rfl (by kernel_rfl) (by kernel_rfl) (by kernel_rfl) (fun _ _ _ h => h) ⟨.inl ⟨by kernel_rfl, fun w => by first | rfl | kernel_rfl⟩, fun _ => rfl⟩ ?_
          go_simp
          refine wpAnyIn_take (i := 22) rfl rfl (by kernel_rfl) (by kernel_rfl) (by kernel_rfl) (fun _ _ _ h => h) ⟨.inr ⟨by kernel_rfl, rfl⟩, fun _ => rfl⟩ ?_
          go_simp
          refine wpAnyIn_take (i := 23) rfl rfl (by kernel_rfl) (by kernel_rfl) (by kernel_rfl) (fun _ _ _ h => h) ⟨.inr ⟨by kernel_rfl, rfl⟩, fun _ => rfl⟩ ?_
          go_simp
          refine wpAnyIn_take (i := 24) rfl rfl (by kernel_rfl) (by kernel_rfl) (by kernel_rfl) (fun _ _ _ h => h) ⟨.inr ⟨by kernel_rfl, rfl⟩, fun _ => rfl⟩ ?_
          go_simp
          refine wpAnyIn_take (i := 25) rfl rfl (by kernel_rfl) (by kernel_rfl) (by kernel_rfl) (fun _ _ _ h => h) ⟨.inr ⟨by kernel_rfl, rfl⟩, fun _ => rfl⟩ ?_
          go_simp
          refine wpAnyIn_take (i := 26) rfl rfl (by kernel_rfl) (by kernel_rfl) (by kernel_rfl) (fun _ _ _ h => h) ⟨.inr ⟨by kernel_rfl, rfl⟩, fun _ => rfl⟩ ?_
          go_simp
          refine wpAnyIn_ready (rs := [27]) (by kernel_rfl) (by simp) ?_
          refine AllReadyIn.cons rfl (fun K' hK => ?_) AllReadyIn.nil
          rw [if_neg (nt (by kernel_rfl))]
          refine ⟨fun _ _ => trivial, hK _ _ ?_⟩
          clear hK K'
          go_simp
          refine wpAnyIn_take (i := 28) (v := (.bool false)) rfl rfl (by kernel_rfl) (by kernel_rfl) (by kernel_rfl) (fun _ _ _ h => h) ⟨.inl ⟨by kernel_rfl, fun w => by first | rfl | kernel_rfl⟩, fun _ => rfl⟩ ?_
          go_simp
          refine wpAnyIn_take (i := 29) (v := (.bool false)) rfl rfl (by kernel_rfl) (by kernel_rfl) (by kernel_rfl) (fun _ _ _ h => h) ⟨.inl ⟨by kernel_rfl, fun w => by first | rfl | kernel_rfl⟩, fun _ => rfl⟩ ?_
          go_simp
          refine wpAnyIn_take (i := 30) (v := (.bool false)) rfl rfl (by kernel_rfl) (by kernel_rfl) (by kernel_rfl) (fun _ _ _ h => h) ⟨.inl ⟨by kernel_rfl, fun w => by first | rfl | kernel_rfl⟩, fun _ => rfl⟩ ?_
          go_simp
          refine wpAnyIn_done (by kernel_rfl) ?_ _
          gi_wp2_with fail
          go_ret
          exact ⟨S3, hg2.trans hg3 hc2.size, hi3, hc2.trans hc3 (fun _ _ x => x) (fun x hx' h => (hg2 x h).resolve_right (by omega)), .inr ⟨rfl, _, Nat.succ_pos _, hkl, hjx⟩⟩
    · refine ⟨_, rfl, hK _ _ ?_⟩
      clear hK K'
      go_simp
      refine wpAnyIn_take (i := 9) (v := (.bool false)) rfl rfl (by kernel_rfl) (by kernel_rfl) (by kernel_rfl) (fun _ _ _ h => h) ⟨.inl ⟨by kernel_rfl, fun w => by first | rfl | kernel_rfl⟩, fun _ => rfl⟩ ?_
      go_simp
      refine wpAnyIn_take (i := 10) rfl rfl (by kernel_rfl) (by kernel_rfl) (by kernel_rfl) (fun _ _ _ h => h) ⟨.inr ⟨by kernel_rfl, rfl⟩, fun _ => rfl⟩ ?_
      go_simp
      refine wpAnyIn_take (i := 11) rfl rfl (by kernel_rfl) (by kernel_rfl) (by kernel_rfl) (fun _ _ _ h => h) ⟨.inr ⟨by kernel_rfl, rfl⟩, fun _ => rfl⟩ ?_
      go_simp
      refine wpAnyIn_take (i := 12) rfl rfl (by kernel_rfl) (by kernel_rfl) (by kernel_rfl) (fun _ _ _ h => h) ⟨.inr ⟨by kernel_rfl, rfl⟩, fun _ => rfl⟩ ?_
      go_simp
      refine wpAnyIn_take (i := 13) rfl rfl (by kernel_rfl) (by kernel_rfl) (by kernel_rfl) (fun _ _ _ h => h) ⟨.inr ⟨by kernel_rfl, rfl⟩, fun _ => rfl⟩ ?_
      go_simp
      refine wpAnyIn_take (i := 14) rfl rfl (by kernel_rfl) (by kernel_rfl) (by kernel_rfl) (fun _ _ _ h => h) ⟨.inr ⟨by kernel_rfl, rfl⟩, fun _ => rfl⟩ ?_
      go_simp
      refine wpAnyIn_take (i := 15) rfl rfl (by kernel_rfl) (by kernel_rfl) (by kernel_rfl) (fun _ _ _ h => h) ⟨.inr ⟨by kernel_rfl, rfl⟩, fun _ => rfl⟩ ?_
      go_simp
      refine wpAnyIn_take (i := 16) rfl rfl (by kernel_rfl) (by kernel_rfl) (by kernel_rfl) (fun _ _ _ h => h) ⟨.inr ⟨by kernel_rfl, rfl⟩, fun _ => rfl⟩ ?_
      go_simp
      refine wpAnyIn_take (i := 17) rfl rfl (by kernel_rfl) (by kernel_rfl) (by kernel_rfl) (fun _ _ _ h => h) ⟨.inr ⟨by kernel_rfl, rfl⟩, fun _ => rfl⟩ ?_
      go_simp
      refine wpAnyIn_take (i := 18) rfl rfl (by kernel_rfl) (by kernel_rfl) (by kernel_rfl) (fun _ _ _ h => h) ⟨.inr ⟨by kernel_rfl, rfl⟩, fun _ => rfl⟩ ?_
      go_simp
      refine wpAnyIn_ready (rs := [19]) (by kernel_rfl) (by simp) ?_
      refine AllReadyIn.cons rfl (fun K' hK => ?_) AllReadyIn.nil
      rw [if_neg (nt (by kernel_rfl))]
      refine ⟨fun _ _ => trivial, hK _ _ ?_⟩
      clear hK K'
      go_simp
      refine wpAnyIn_take (i := 20) (v := (.bool false)) rfl rfl (by kernel_rfl) (by kernel_rfl) (by kernel_rfl) (fun _ _ _ h => h) ⟨.inl ⟨by kernel_rfl, fun w => by first | rfl | kernel_rfl⟩, fun _ => rfl⟩ ?_
      go_simp
      refine wpAnyIn_take (i := 21) (v := (.bool false)) rfl rfl (by kernel_rfl) (by kernel_rfl) (by kernel_rfl) (fun _ _ _ h => h) ⟨.inl ⟨by kernel_rfl, fun w => by first | rfl | kernel_rfl⟩, fun _ => rfl⟩ ?_
      go_simp
      refine wpAnyIn_take (i := 22) rfl rfl (by kernel_rfl) (by kernel_rfl) (by kernel_rfl) (fun _ _ _ h => h) ⟨.inr ⟨by kernel_rfl, rfl⟩, fun _ => rfl⟩ ?_
      go_simp
      refine wpAnyIn_take (i := 23) rfl rfl (by kernel_rfl) (by kernel_rfl) (by kernel_rfl) (fun _ _ _ h => h) ⟨.inr ⟨by kernel_rfl, rfl⟩, fun _ => rfl⟩ ?_
      go_simp
      refine wpAnyIn_take (i := 24) rfl rfl (by kernel_rfl) (by kernel_rfl) (by kernel_rfl) (fun _ _ _ h => h) ⟨.inr ⟨by kernel_rfl, rfl⟩, fun _ => rfl⟩ ?_
      go_simp
      refine wpAnyIn_take (i := 25) rfl rfl (by kernel_rfl) (by kernel_rfl) (by kernel_rfl) (fun _ _ _ h => h) ⟨.inr ⟨by kernel_rfl, rfl⟩, fun _ => rfl⟩ ?_
      go_simp
      refine wpAnyIn_take (i := 26) rfl rfl (by kernel_rfl) (by kernel_rfl) (by kernel_rfl) (fun _ _ _ h => h) ⟨.inr ⟨by kernel_rfl, rfl⟩, fun _ => rfl⟩ ?_
      go_simp
      refine wpAnyIn_ready (rs := [27]) (by kernel_rfl) (by simp) ?_
      refine AllReadyIn.cons rfl (fun K' hK => ?_) AllReadyIn.nil
      rw [if_neg (nt (by kernel_rfl))]
      refine ⟨fun _ _ => trivial, hK _ _ ?_⟩
      clear hK K'
      go_simp
      refine wpAnyIn_take (i := 28) (v := (.bool false)) rfl rfl (by kernel_rfl) (by kernel_rfl) (by kernel_rfl) (fun _ _ _ h => h) ⟨.inl ⟨by kernel_rfl, fun w => by first | rfl | kernel_rfl⟩, fun _ => rfl⟩ ?_
      go_simp
      refine wpAnyIn_take (i := 29) (v := (.bool false)) rfl rfl (by kernel_rfl) (by kernel_rfl) (by kernel_rfl) (fun _ _ _ h => h) ⟨.inl ⟨by kernel_rfl, fun w => by first | rfl | kernel_rfl⟩, fun _ => rfl⟩ ?_
      go_simp
      refine wpAnyIn_take (i := 30) (v := (.bool false)) rfl rfl (by kernel_rfl) (by kernel_rfl) (by kernel_rfl) (fun _ _ _ h => h) ⟨.inl ⟨by kernel_rfl, fun w => by first | rfl | kernel_rfl⟩, fun _ => rfl⟩ ?_
      go_simp
      refine wpAnyIn_done (by kernel_rfl) ?_ _
      gi_wp2_with fail
      go_ret
      exact ⟨S2, hg2, hi2, hc2, .inr ⟨rfl, q, hq0, hq1, hjx⟩⟩
end Go.Proofs.Ytieohdlmighmkaa.S
