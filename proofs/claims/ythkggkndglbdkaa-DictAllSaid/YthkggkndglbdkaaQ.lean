import Derived.Test.YthkggkndglbdkaaP
namespace Go.Proofs.Ythkggkndglbdkaa.S
open Go Go.RowKit Go.Shelf Go.Proofs Go.Proofs.Ythkggkndglbdkaa
variable {M : Nat}

def takeL (s : K M) (L : List (K M × Int)) : List (K M × Int) := if 1 < tm s L then insL keyOf s (tm s L - 1) L else delL keyOf s L
theorem tm_nil (s : K M) : tm s [] = 0 := rfl
set_option maxRecDepth 100000 in
set_option maxHeartbeats 1000000 in
theorem take_any {W0 W : World} {mb : Nat} {L : List (K M × Int)} (s : K M) (h : Dm W0 mb L W) (hl : L.length + 1 ≤ 999999) :
    Calls Try.prog 10 #[(Value.pointer (some ⟨mb, 0, none⟩)), .string s.1] W fun e w' => e = .returned (.bool (has s L)) ∧ Dm W0 mb (takeL s L) w' ∧ Chg (fun b => b = mb) W w' := by
  obtain ⟨cv, h1, h2⟩ := h.mp
  have hbd := h.tm_bd s
  have hpos := Lib.hid h.pos
  have hget := get_any s h
  have hall := all_any mb W
  obtain ⟨hv, hhv⟩ : ∃ hv, has s L = hv := ⟨_, rfl⟩
  unfold takeL
  by_cases ht : 1 < tm s L
  · have hcv : cv = cv19 := h2.resolve_left (fun e => by rw [e, tm_nil] at ht; omega)
    subst hcv
    have hput := fun x (hx : Below W.heap.size W x) => put_any' s (tm s L - 1) (by omega) hl (h1.later hx) hpos.out
    rw [if_pos ht]
    have hh1 : has s L = true := hbd.2.2.2 (by omega)
    obtain ⟨tv, htv⟩ : ∃ tv, tm s L = tv := ⟨_, rfl⟩
    rw [htv] at hget hput hbd ht ⊢
    rw [hh1] at hget ⊢
    have hwt : IntKind.i64.wrap (tv - 1) = tv - 1 := by rw [IntKind.wrap_i64]; omega
    have hdt : decide (1 < tv) = true := decide_eq_true ht
    clear htv hh1 hhv h1 h2 hbd hpos
    go_enter Try.func10, Try.ntmps10
    go_wp2_with (first
      | (go_at_call 22; (with_reducible refine hall.mono ?_); rintro e w' ⟨rfl, hw⟩; subst w')
      | (go_at_call 20; (with_reducible refine hget.mono ?_); rintro e x2 ⟨rfl, b2⟩)
      | (go_at_call 21; (with_reducible refine (hput _ b2).mono ?_); rintro e x3 ⟨rfl, d3, c3⟩))
    go_ret
    exact ⟨rfl, d3, chg2 (Chg.of_below b2) c3⟩
  · rw [if_neg ht]
    have hdel := fun x (hx : Below W.heap.size W x) => del_any s (h.later hx)
    obtain ⟨tv, htv⟩ : ∃ tv, tm s L = tv := ⟨_, rfl⟩
    rw [htv] at hget ht
    have hdt : decide (1 < tv) = false := decide_eq_false ht
    clear htv hhv h1 h2 hbd hpos
    go_enter Try.func10, Try.ntmps10
    go_wp2_with (first
      | (go_at_call 22; (with_reducible refine hall.mono ?_); rintro e w' ⟨rfl, hw⟩; subst w')
      | (go_at_call 20; (with_reducible refine hget.mono ?_); rintro e x2 ⟨rfl, b2⟩)
      | (go_at_call 23; (with_reducible refine (hdel _ b2).mono ?_); rintro e x3 ⟨rfl, d3, c3⟩))
    go_ret
    exact ⟨rfl, d3, chg2 (Chg.of_below b2) c3⟩
theorem dlen_any {W0 W : World} {mb : Nat} {L : List (K M × Int)} (h : Dm W0 mb L W) :
    Calls Try.prog 12 #[(Value.pointer (some ⟨mb, 0, none⟩))] W fun e w' => e = .returned (Value.int .i64 ((L.length : Int))) ∧ w' = W := by
  have hlen := len_any h
  have hall := all_any mb W
  go_enter Try.func12, Try.ntmps12
  go_wp2_with (first
    | (go_at_call 22; (with_reducible refine hall.mono ?_); rintro e w' ⟨rfl, hw⟩; subst w')
    | (go_at_call 17; (with_reducible refine hlen.mono ?_); rintro e w' ⟨rfl, hw⟩; subst w'))
  go_ret
  exact ⟨rfl, rfl⟩
def rankOf (s : K M) (L : List (K M × Int)) : Int := if has s L then (below keyOf s L : Int) else 0
set_option maxRecDepth 100000 in
theorem drank_any {W0 W : World} {mb : Nat} {L : List (K M × Int)} (s : K M) (h : Dm W0 mb L W) :
    Calls Try.prog 13 #[(Value.pointer (some ⟨mb, 0, none⟩)), .string s.1] W fun e w' => e = .returned (.tuple #[(Value.int .i64 (rankOf s L)), .bool (has s L)]) ∧ Below W.heap.size W w' := by
  have hget := get_any s h
  have hall := all_any mb W
  have hrk := fun x (hx : Below W.heap.size W x) => rnk_any s (h.later hx)
  unfold rankOf
  generalize tm s L = tv at hget
  obtain ⟨bl, hbl⟩ : ∃ bl, below keyOf s L = bl := ⟨_, rfl⟩
  rw [hbl] at hrk ⊢
  clear hbl
  cases hv : has s L with
  | true =>
    rw [hv] at hget
    clear hv
    go_enter Try.func13, Try.ntmps13
    go_wp2_with (first
      | (go_at_call 22; (with_reducible refine hall.mono ?_); rintro e w' ⟨rfl, hw⟩; subst w')
      | (go_at_call 20; (with_reducible refine hget.mono ?_); rintro e x2 ⟨rfl, b2⟩)
      | (go_at_call 24; (with_reducible refine (hrk _ b2).mono ?_); rintro e x3 ⟨rfl, b3⟩))
    go_ret2
    exact ⟨rfl, below_on b2 b3⟩
  | false =>
    rw [hv] at hget
    clear hv
    go_enter Try.func13, Try.ntmps13
    go_wp2_with (first
      | (go_at_call 22; (with_reducible refine hall.mono ?_); rintro e w' ⟨rfl, hw⟩; subst w')
      | (go_at_call 20; (with_reducible refine hget.mono ?_); rintro e x2 ⟨rfl, b2⟩))
    go_ret2
    exact ⟨rfl, b2⟩
def wordV : Option (K M × Int) → Value
  | none => .tuple #[.string ⟨#[]⟩, .bool false]
  | some kv => .tuple #[.string kv.1.1, .bool true]
set_option maxRecDepth 100000 in
theorem dat_any {W0 W : World} {mb : Nat} {L : List (K M × Int)} (i : Int) (hi0 : -9223372036854775808 ≤ i) (hi1 : i ≤ 9223372036854775807) (h : Dm W0 mb L W) :
    Calls Try.prog 14 #[(Value.pointer (some ⟨mb, 0, none⟩)), (Value.int .i64 (i))] W fun e w' => e = .returned (wordV (look L i)) ∧ Below W.heap.size W w' := by
  obtain ⟨cv, h1, h2⟩ := h.mp
  have hat := At_any mb L i hi0 hi1 W (by have := h.len; omega) h1
  have hall := all_any mb W
  cases hlk : look L i with
  | none =>
    rw [hlk] at hat
    have hat : Calls Try.prog 25 #[(Value.pointer (some ⟨mb, 0, none⟩)), (Value.int .i64 (i))] W fun e w' => e = .returned (.tuple #[.string ⟨#[]⟩, (Value.int .i64 (0)), .bool false]) ∧ Below W.heap.size W w' := hat
    clear hlk
    go_enter Try.func14, Try.ntmps14
    go_wp2_with (first
      | (go_at_call 22; (with_reducible refine hall.mono ?_); rintro e w' ⟨rfl, hw⟩; subst w')
      | (go_at_call 25; (with_reducible refine hat.mono ?_); rintro e x2 ⟨rfl, b2⟩))
    go_ret2
    exact ⟨rfl, b2⟩
  | some kv =>
    rw [hlk] at hat
    have hat : Calls Try.prog 25 #[(Value.pointer (some ⟨mb, 0, none⟩)), (Value.int .i64 (i))] W fun e w' => e = .returned (.tuple #[.string kv.1.1, (Value.int .i64 (kv.2)), .bool true]) ∧ Below W.heap.size W w' := hat
    clear hlk
    go_enter Try.func14, Try.ntmps14
    go_wp2_with (first
      | (go_at_call 22; (with_reducible refine hall.mono ?_); rintro e w' ⟨rfl, hw⟩; subst w')
      | (go_at_call 25; (with_reducible refine hat.mono ?_); rintro e x2 ⟨rfl, b2⟩))
    go_ret2
    exact ⟨rfl, b2⟩
theorem below_le' {κ : Type} {β : Type} {key : κ → Int} {k : κ} : ∀ {L : List (κ × β)}, below key k L ≤ L.length
  | [] => Nat.le_refl _
  | (a, w) :: r => by
    rw [below]
    split
    · have := below_le' (key := key) (k := k) (L := r); simp; omega
    · simp
/-- How many are not above it. -/
def upTo (s : K M) (L : List (K M × Int)) : Nat := below keyOf s L + (if has s L then 1 else 0)
set_option maxRecDepth 100000 in
theorem around_any {W0 W : World} {mb : Nat} {L : List (K M × Int)} (s : K M) (h : Dm W0 mb L W) :
    Calls Try.prog 27 #[(Value.pointer (some ⟨mb, 0, none⟩)), .string s.1] W fun e w' => e = .returned (.tuple #[(Value.int .i64 ((below keyOf s L : Int))), (Value.int .i64 ((upTo s L : Int)))]) ∧ Below W.heap.size W w' := by
  have hrk := rnk_any s h
  have hget := fun x (hx : Below W.heap.size W x) => get_any s (h.later hx)
  have hlt := below_le' (key := keyOf) (k := s) (L := L)
  have hln := h.len
  unfold upTo
  generalize tm s L = tv at hget
  generalize below keyOf s L = bl at hrk hlt ⊢
  have hw : IntKind.i64.wrap ((bl : Int) + 1) = ((bl + 1 : Nat) : Int) := by rw [IntKind.wrap_i64]; omega
  obtain ⟨b1, hb1⟩ : ∃ b1, bl + 1 = b1 := ⟨_, rfl⟩
  rw [hb1] at hw
  cases hv : has s L with
  | true =>
    rw [hv] at hget
    show Calls Try.prog 27 _ W fun e w' => e = .returned (.tuple #[(Value.int .i64 ((bl : Int))), (Value.int .i64 (((bl + 1 : Nat) : Int)))]) ∧ Below W.heap.size W w'
    rw [hb1]
    clear hv hlt hln hb1
    go_enter Try.func27, Try.ntmps27
    go_wp2_with (first
      | (go_at_call 24; (with_reducible refine hrk.mono ?_); rintro e x1 ⟨rfl, b1⟩)
      | (go_at_call 20; (with_reducible refine (hget _ b1).mono ?_); rintro e x2 ⟨rfl, b2⟩))
    go_ret2
    exact ⟨rfl, below_on b1 b2⟩
  | false =>
    rw [hv] at hget
    clear hv hlt hln hb1 hw
    go_enter Try.func27, Try.ntmps27
    go_wp2_with (first
      | (go_at_call 24; (with_reducible refine hrk.mono ?_); rintro e x1 ⟨rfl, b1⟩)
      | (go_at_call 20; (with_reducible refine (hget _ b1).mono ?_); rintro e x2 ⟨rfl, b2⟩))
    go_ret2
    exact ⟨rfl, below_on b1 b2⟩
def spA (a b : Int) : Int := if a = b then 0 else a
def spB (a b : Int) : Int := if a = b then 0 else b
theorem sp_any (a b : Int) (W : World) : Calls Try.prog 28 #[(Value.int .i64 (a)), (Value.int .i64 (b))] W fun e w' => e = .returned (.tuple #[(Value.int .i64 (spA a b)), (Value.int .i64 (spB a b)), .bool true]) ∧ w' = W := by
  unfold spA spB
  by_cases hab : a = b
  · subst hab
    go_enter Try.func28, Try.ntmps28
    go_wp2
    go_ret3
    exact ⟨by simp, rfl⟩
  · rw [if_neg hab, if_neg hab]
    go_enter Try.func28, Try.ntmps28
    go_wp2
    go_ret3
    exact ⟨rfl, rfl⟩
/-- Where what the test says yes of begins and ends. -/
def spF (op : Int) (s : K M) (L : List (K M × Int)) : Int := if op = 5 then (upTo s L : Int) else if op = 1 ∨ op = 6 then (below keyOf s L : Int) else 0
def spT (op : Int) (s : K M) (L : List (K M × Int)) : Int := if op = 3 then (below keyOf s L : Int) else if op = 1 ∨ op = 4 then (upTo s L : Int) else (L.length : Int)
def isSp (op : Int) : Prop := op = 1 ∨ op = 3 ∨ op = 4 ∨ op = 5 ∨ op = 6
set_option maxRecDepth 100000 in
set_option maxHeartbeats 1000000 in
theorem span_any {W0 W : World} {mb : Nat} {L : List (K M × Int)} (op : Int) (s : K M) (h : Dm W0 mb L W) (ho : isSp op) :
    Calls Try.prog 16 #[(Value.pointer (some ⟨mb, 0, none⟩)), (Value.int .i64 (op)), .string s.1] W fun e w' => e = .returned (.tuple #[(Value.int .i64 (spA (spF op s L) (spT op s L))), (Value.int .i64 (spB (spF op s L) (spT op s L))), .bool true]) ∧ Below W.heap.size W w' := by
  have har := around_any s h
  have hlen := fun x (hx : Below W.heap.size W x) => dlen_any (h.later hx)
  unfold spF spT
  generalize (upTo s L : Int) = up at har ⊢
  generalize (below keyOf s L : Int) = bl at har ⊢
  generalize (L.length : Int) = n at hlen ⊢
  rcases ho with rfl | rfl | rfl | rfl | rfl
  all_goals
    simp only [reduceIte, Int.reduceEq, or_true, or_self, or_false]
    go_enter Try.func16, Try.ntmps16
    go_wp2_with (first
      | (go_at_call 27; (with_reducible refine har.mono ?_); rintro e x1 ⟨rfl, b1⟩)
      | (go_at_call 12; (with_reducible refine (hlen _ b1).mono ?_); rintro e w' ⟨rfl, hw⟩; subst w')
      | (go_at_call 28; (with_reducible refine (sp_any _ _ _).mono ?_); rintro e w' ⟨rfl, hw⟩; subst w'))
    go_ret3
    exact ⟨rfl, b1⟩
set_option maxRecDepth 100000 in
set_option maxHeartbeats 1000000 in
theorem span_other {W0 W : World} {mb : Nat} {L : List (K M × Int)} (op : Int) (s : K M) (h : Dm W0 mb L W) (ho : ¬ isSp op) :
    Calls Try.prog 16 #[(Value.pointer (some ⟨mb, 0, none⟩)), (Value.int .i64 (op)), .string s.1] W fun e w' => e = .returned (.tuple #[(Value.int .i64 (0)), (Value.int .i64 (0)), .bool false]) ∧ Below W.heap.size W w' := by
  have har := around_any s h
  generalize (upTo s L : Int) = up at har
  generalize (below keyOf s L : Int) = bl at har
  unfold isSp at ho
  have e1 : (op == 1) = false := by simp; omega
  have e3 : (op == 3) = false := by simp; omega
  have e4 : (op == 4) = false := by simp; omega
  have e5 : (op == 5) = false := by simp; omega
  have e6 : (op == 6) = false := by simp; omega
  have d1 : op ≠ 1 := by omega
  have d3 : op ≠ 3 := by omega
  have d4 : op ≠ 4 := by omega
  have d5 : op ≠ 5 := by omega
  have d6 : op ≠ 6 := by omega
  clear ho
  go_enter Try.func16, Try.ntmps16
  go_wp2_with (first
    | (go_at_call 27; (with_reducible refine har.mono ?_); rintro e x1 ⟨rfl, b1⟩))
  go_ret3
  exact ⟨rfl, b1⟩
end Go.Proofs.Ythkggkndglbdkaa.S
