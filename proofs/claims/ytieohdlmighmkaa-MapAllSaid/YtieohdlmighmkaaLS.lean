import Derived.Test.YtieohdlmighmkaaKS
namespace Go.Proofs.Ytieohdlmighmkaa.S
open Go Go.RowKit Go.Shelf Go.Proofs Go.Proofs.Ytieohdlmighmkaa
attribute [local go_sem] Oper.semAt_some
attribute [local go_sem] eql26n eql26f wide_fn wide_depth

set_option maxHeartbeats 1000000 in
theorem allC_any (c : Nat) (p : Option Addr) (yf : Fn) (yb : Array Value) (W : World) (hc : W.cell? ⟨c, 0, none⟩ = some (.pointer p)) (R : Ending → World → Prop)
    (hw : Calls Try.prog 45 #[.pointer p, .func yf #[] yb] W R) (hR : ∀ e w, R e w → ∃ v, e = .returned v) :
    Calls Try.prog 44 #[.func yf #[] yb, (Value.pointer (some ⟨c, 0, none⟩))] W fun e w' => e = .returned (.tuple #[]) ∧ ∃ v, R (.returned v) w' := by
  have hw' : Calls Try.prog 45 #[.pointer p, .func yf #[] yb] W fun e w => ∃ v, e = .returned v ∧ R (.returned v) w := hw.mono (fun e w h => by obtain ⟨v, rfl⟩ := hR e w h; exact ⟨v, rfl, h⟩)
  have hcl : c < W.heap.size := World.block_lt_of_cell? W ⟨c, 0, none⟩ hc
  refine (callsIn_wide (n := 0)).1 ?_
  refine callsIn_of_wp Try.func44 rfl trivial ?_ rfl
  simp only [Try.ntmps44, List.size_toArray, List.length_cons, List.length_nil, Nat.reduceAdd, Nat.reduceSub, Array.replicate_succ, Array.replicate_zero, List.push_toArray, List.append_toArray, List.nil_append, List.cons_append]
  gi_wp2_with (gi_at_call 45; refine callsIn_of_calls rfl ?_; (with_reducible refine hw'.mono ?_); rintro e x1 ⟨v, rfl, h⟩)
  go_end0
  exact ⟨rfl, v, h⟩
/-- **All's closure gives what is there.** -/
theorem all_gives (c : Nat) (u : Lb) : Gives Try.prog (.func (.func 44) #[] #[(Value.pointer (some ⟨c, 0, none⟩))]) enc2 u.toL (fun b => b = c ∨ u.has b) (fun _ => False) (fun _ W => Cell W c (.pointer u.ptr) ∧ LbIn W u) := by
  refine ⟨fun k W W' ⟨h1, h2⟩ _ _ hb => ⟨h1.of (hb c (.inl rfl)), h2.of (fun b h => hb b (.inr h))⟩, ⟨44, _, rfl⟩, fun _ x => x.elim, ?_⟩
  rintro yf yb J Jx S W hJ hJx hS hM hSM ⟨hc, hq⟩ h0 hY
  refine .inl ⟨44, _, rfl, enters_of Try.func44 (by kernel_rfl) rfl, ?_⟩
  have hw := walk_any u.toL yf yb J Jx S W hJ (fun k hk S1 W1 a1 a2 a3 => hY k hk S1 W1 a1 (a2.mono (fun _ _ x => .inl x)) a3) u [] [] S W (by simp) hq (fun b h x => hSM b x (.inr h)) (.refl _ _) hS (.refl _ _) h0
  refine (allC_any c u.ptr yf yb W hc.1 _ hw ?_).mono ?_
  · rintro e w ⟨_, _, _, _, ⟨rfl, _⟩ | ⟨rfl, _⟩⟩ <;> exact ⟨_, rfl⟩
  · rintro e w ⟨rfl, v, S2, g2, i2, c2, h⟩
    have hq' : Cell w c (.pointer u.ptr) ∧ LbIn w u := ⟨hc.of (c2.block c (hM c (.inl rfl)) (fun x => hSM c x (.inl rfl))), hq.of (fun b h => c2.block b (hM b (.inr h)) (fun x => hSM b x (.inr h)))⟩
    refine ⟨_, S2, rfl, g2, i2, c2.mono (fun _ _ x => .inl x), ?_⟩
    rcases h with ⟨_, hj⟩ | ⟨_, k, k0, k1, hjx⟩
    · exact .inl ⟨by simpa using hj, hq'⟩
    · exact .inr ⟨k, k0, k1, hjx, hq'⟩

/-- A block of fewer than five cells is no node. -/
theorem LbIn.apart {W : World} {nb : Nat} {cs : Array Value} {t : TypeId} (hh : W.heap[nb]? = some (.cells cs t)) (hs : cs.size < 5) : ∀ {u : Lb}, LbIn W u → ¬ u.has nb
  | .nil, _, h => h
  | .nd _ _ _ _ _, ⟨⟨_, hn⟩, hl, hr⟩, h => by
    rcases h with rfl | h | h
    · have := hn.c4
      rw [nd_cell hh 4, Array.getElem?_eq_none (by omega)] at this
      cases this
    · exact hl.apart hh hs h
    · exact hr.apart hh hs h
set_option maxHeartbeats 1000000 in
theorem All_any {D : Nat} {W0 : World} {g : Nat} {lb : Array Value} {key : Int → Int} (mb : Nat) (L : List (Int × ByteArray)) (W : World) (h : Mp D W0 g lb key mb L W) :
    Calls Try.prog 21 #[(Value.pointer (some ⟨mb, 0, none⟩))] W fun e w' => ∃ u : Lb, e = .returned (.func (.func 44) #[] #[(Value.pointer (some ⟨W.heap.size, 0, none⟩))]) ∧ Cell w' W.heap.size (.pointer u.ptr) ∧ LbIn w' u ∧ u.toL = L ∧ (∀ b, u.has b → b < W.heap.size) ∧ Below W.heap.size W w' := by
  have ht := tree_any mb L W h
  go_enter Try.func21, Try.ntmps21
  go_wp2_with (go_at_call 42; (with_reducible refine ht.mono ?_); rintro e x1 ⟨hx1, t, p, rfl, htr, hl⟩; subst x1)
  obtain ⟨u, rfl, hu1, hu2⟩ := tr_lb htr
  go_ret
  exact ⟨u, rfl, Cell.new W _ _, hu2.of (fun b hb => Below.heap_alloc _ _ _ (hu2.lt b hb)), hu1.trans hl, fun b hb => hu2.lt b hb, below_alloc W _⟩
end Go.Proofs.Ytieohdlmighmkaa.S
