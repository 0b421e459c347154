import Derived.Test.YtglfmbpcapendaaP
namespace Go.Proofs.Ytglfmbpcapendaa.S
open Go Go.RowKit Go.Shelf Go.Proofs Go.Proofs.Ytglfmbpcapendaa
variable {M : Nat}

def takeL (s : K M) (L : List (K M × Int)) : List (K M × Int) := if 1 < tm s L then insL keyOf s (tm s L - 1) L else delL keyOf s L
theorem tm_nil (s : K M) : tm s [] = 0 := rfl
set_option maxRecDepth 100000 in
set_option maxHeartbeats 1000000 in
theorem take_any {W0 W : World} {mb : Nat} {L : List (K M × Int)} (s : K M) (h : Dm W0 mb L W) (hl : L.length + 1 ≤ 999999) :
    Calls Try.prog 25 #[(Value.pointer (some ⟨mb, 2, none⟩)), .string s.1] W fun e w' => e = .returned (.bool (has s L)) ∧ Dm W0 mb (takeL s L) w' ∧ Chm mb W w' := by
  obtain ⟨cv, h1, h2⟩ := h.mp
  have hbd := h.tm_bd s
  have hpos := Lib.hid h.pos
  have hget := get_any s h
  have hall := all_any mb W
  have hlt0 := h.lt
  obtain ⟨hv, hhv⟩ : ∃ hv, has s L = hv := ⟨_, rfl⟩
  unfold takeL
  by_cases ht : 1 < tm s L
  · have hcv : cv = cv19 := h2.resolve_left (fun e => by rw [e, tm_nil] at ht; omega)
    subst hcv
    have hput := fun x (hx : Below W.heap.size W x) => put_any' s (tm s L - 1) (by omega) hl (h1.later hx) hpos.out
    rw [if_pos ht]
    have hh1 : has s L = true := hbd.2.2.2 (by omega)
    obtain ⟨tv, htv⟩ : ∃ tv, tm s L = tv := ⟨_, rfl⟩
    rw [htv] at hget hput hbd ht ⊢
    rw [hh1] at hget ⊢
    have hwt : IntKind.i64.wrap (tv - 1) = tv - 1 := by rw [IntKind.wrap_i64]; omega
    have hdt : decide (1 < tv) = true := decide_eq_true ht
    clear htv hh1 hhv h1 h2 hbd hpos
    go_enter Try.func25, Try.ntmps25
    go_wp2_with (first
      | (go_at_call 26; (with_reducible refine hall.mono ?_); rintro e w' ⟨rfl, hw⟩; subst w')
      | (go_at_call 31; (with_reducible refine hget.mono ?_); rintro e x2 ⟨rfl, b2⟩)
      | (go_at_call 32; (with_reducible refine (hput _ b2).mono ?_); rintro e x3 ⟨rfl, d3, c3⟩))
    go_ret
    exact ⟨rfl, d3, (Chm.of_below hlt0 b2).trans c3⟩
  · rw [if_neg ht]
    have hdel := fun x (hx : Below W.heap.size W x) => del_any s (h.later hx)
    obtain ⟨tv, htv⟩ : ∃ tv, tm s L = tv := ⟨_, rfl⟩
    rw [htv] at hget ht
    have hdt : decide (1 < tv) = false := decide_eq_false ht
    clear htv hhv h1 h2 hbd hpos
    go_enter Try.func25, Try.ntmps25
    go_wp2_with (first
      | (go_at_call 26; (with_reducible refine hall.mono ?_); rintro e w' ⟨rfl, hw⟩; subst w')
      | (go_at_call 31; (with_reducible refine hget.mono ?_); rintro e x2 ⟨rfl, b2⟩)
      | (go_at_call 33; (with_reducible refine (hdel _ b2).mono ?_); rintro e x3 ⟨rfl, d3, c3⟩))
    go_ret
    exact ⟨rfl, d3, (Chm.of_below hlt0 b2).trans c3⟩
theorem dlen_any {W0 W : World} {mb : Nat} {L : List (K M × Int)} (h : Dm W0 mb L W) :
    Calls Try.prog 22 #[(Value.pointer (some ⟨mb, 2, none⟩))] W fun e w' => e = .returned (Value.int .i64 ((L.length : Int))) ∧ w' = W := by
  have hlen := len_any h
  have hall := all_any mb W
  go_enter Try.func22, Try.ntmps22
  go_wp2_with (first
    | (go_at_call 26; (with_reducible refine hall.mono ?_); rintro e w' ⟨rfl, hw⟩; subst w')
    | (go_at_call 27; (with_reducible refine hlen.mono ?_); rintro e w' ⟨rfl, hw⟩; subst w'))
  go_ret
  exact ⟨rfl, rfl⟩
end Go.Proofs.Ytglfmbpcapendaa.S
