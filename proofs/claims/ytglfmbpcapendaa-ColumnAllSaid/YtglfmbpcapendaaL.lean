import Derived.Test.YtglfmbpcapendaaJ
namespace Go.Proofs.Ytglfmbpcapendaa.S
open Go Go.RowKit Go.Shelf Go.Proofs Go.Proofs.Ytglfmbpcapendaa
variable {M : Nat}

set_option maxRecDepth 100000 in
theorem str_any (a b : ByteArray) (w : World) : Calls Try.prog 36 #[.string a, .string b] w fun e w' => e = .returned (Value.int .i64 (Lib.compareBytes a.data.toList b.data.toList)) ∧ w' = w := by
  go_enter Try.func36, Try.ntmps36
  go_wp2
  rw [run_callFunc_extern Try.func43 (by kernel_rfl) (by kernel_rfl) (by kernel_rfl) (e := Extern.BytealgCompare.compare) (by kernel_rfl), Lib.run_compareString]
  simp only [Result.andThen]
  rw [Oper.upon_value]
  go_wp2
  go_ret
  exact ⟨rfl, rfl⟩
theorem strcmp_any (a b : ByteArray) (w : World) : Calls Try.prog 30 #[.string a, .string b] w fun e w' => e = .returned (Value.int .i64 (Lib.compareBytes a.data.toList b.data.toList)) ∧ w' = w := by
  have h := str_any a b w
  go_enter Try.func30, Try.ntmps30
  go_wp2_with (go_at_call 36; (with_reducible refine h.mono ?_); rintro e w' ⟨rfl, hw⟩; subst hw)
  go_ret
  exact ⟨rfl, rfl⟩
abbrev cv19 : Value := .func (.func 30) #[] #[]
theorem cmp19 (D : Nat) (W0 : World) : Cmp (M := M) D W0 cv19 keyOf :=
  ⟨30, #[], rfl, enters_of Try.func30 (by kernel_rfl) rfl, fun w a b _ => (strcmp_any a.1 b.1 w).mono (by
    rintro e w' ⟨rfl, rfl⟩
    rw [keyOf_cmp]
    exact ⟨rfl, 0, rfl⟩)⟩

/-- Words with how many times each is there. -/
structure Dm (W0 : World) (mb : Nat) (L : List (K M × Int)) (W : World) : Prop where
  mp : ∃ cv, Mp 0 W0 cv keyOf mb L W ∧ (L = [] ∨ cv = cv19)
  pos : ∀ p ∈ L, 1 ≤ p.2 ∧ p.2 ≤ 1000000
  len : L.length ≤ 999999
theorem Dm.lt {W0 W : World} {mb : Nat} {L : List (K M × Int)} (h : Dm W0 mb L W) : mb < W.heap.size := by obtain ⟨cv, h1, _⟩ := h.mp; exact h1.lt
theorem Dm.later {W0 W W' : World} {mb : Nat} {L : List (K M × Int)} (h : Dm W0 mb L W) (hb : Below W.heap.size W W') : Dm W0 mb L W' := by
  obtain ⟨cv, h1, h2⟩ := h.mp
  exact ⟨⟨cv, h1.later hb, h2⟩, h.pos, h.len⟩
theorem Dm.bel {W0 W : World} {mb : Nat} {L : List (K M × Int)} (h : Dm W0 mb L W) : Below 0 W0 W := by obtain ⟨cv, h1, _⟩ := h.mp; exact h1.bel
/-- How many times it is there. -/
def tm (s : K M) (L : List (K M × Int)) : Int := (getL keyOf s L).getD 0
def has (s : K M) (L : List (K M × Int)) : Bool := (getL keyOf s L).isSome

theorem getD_opt (s : K M) (L : List (K M × Int)) : optV (getL keyOf s L) = (Value.int .i64 (tm s L)) := by
  unfold tm
  cases getL keyOf s L <;> rfl
theorem get_any {W0 W : World} {mb : Nat} {L : List (K M × Int)} (s : K M) (h : Dm W0 mb L W) :
    Calls Try.prog 31 #[(Value.pointer (some ⟨mb, 2, none⟩)), .string s.1] W fun e w' => e = .returned (.tuple #[(Value.int .i64 (tm s L)), .bool (has s L)]) ∧ Below W.heap.size W w' := by
  obtain ⟨cv, h1, h2⟩ := h.mp
  have := Get_any mb L (h2.imp id (fun e => e ▸ cmp19 0 W0)) s W (by have := h.len; omega) h1
  rw [getD_opt] at this
  exact this
theorem len_any {W0 W : World} {mb : Nat} {L : List (K M × Int)} (h : Dm W0 mb L W) :
    Calls Try.prog 27 #[(Value.pointer (some ⟨mb, 2, none⟩))] W fun e w' => e = .returned (Value.int .i64 ((L.length : Int))) ∧ w' = W := by
  obtain ⟨cv, h1, h2⟩ := h.mp
  exact Len_any mb L W h1
theorem getL_mem {s : K M} {v : Int} : ∀ {L : List (K M × Int)}, getL keyOf s L = some v → ∃ p ∈ L, p.2 = v
  | [], h => by simp [getL] at h
  | (a, w) :: r, h => by
    rw [getL] at h
    split at h
    · cases h; exact ⟨(a, v), by simp, rfl⟩
    · obtain ⟨p, hp, e⟩ := getL_mem h
      exact ⟨p, by simp [hp], e⟩
theorem Dm.tm_bd {W0 W : World} {mb : Nat} {L : List (K M × Int)} (h : Dm W0 mb L W) (s : K M) : 0 ≤ tm s L ∧ tm s L ≤ 1000000 ∧ (has s L = true ↔ 1 ≤ tm s L) := by
  unfold tm has
  cases hg : getL keyOf s L with
  | none => simp
  | some v =>
    obtain ⟨p, hp, e⟩ := getL_mem hg
    have := h.pos p hp
    rw [e] at this
    simp; omega
theorem del_any {W0 W : World} {mb : Nat} {L : List (K M × Int)} (s : K M) (h : Dm W0 mb L W) :
    Calls Try.prog 33 #[(Value.pointer (some ⟨mb, 2, none⟩)), .string s.1] W fun e w' => e = .returned (.bool (has s L)) ∧ Dm W0 mb (delL keyOf s L) w' ∧ Chm mb W w' := by
  obtain ⟨cv, h1, h2⟩ := h.mp
  refine (Del_any mb L (h2.imp id (fun e => e ▸ cmp19 0 W0)) s W (by have := h.len; omega) h1).mono ?_
  rintro e w' ⟨rfl, m, c⟩
  refine ⟨rfl, ⟨⟨cv, m, h2.imp (fun e => by rw [e]; rfl) id⟩, fun p hp => h.pos p (delL_mem hp), ?_⟩, c⟩
  have := delL_len (key := keyOf) (k := s) (L := L)
  have := h.len
  omega
theorem insL_all {s : K M} {v : Int} {Q : Int → Prop} (hv : Q v) : ∀ {L : List (K M × Int)}, (∀ p ∈ L, Q p.2) → ∀ p ∈ insL keyOf s v L, Q p.2
  | [], _, p, hp => by rw [insL, List.mem_singleton] at hp; rw [hp]; exact hv
  | (a, w) :: r, h, p, hp => by
    rw [insL] at hp
    split at hp
    · rcases List.mem_cons.1 hp with rfl | hp
      · exact hv
      · exact h p hp
    · split at hp
      · rcases List.mem_cons.1 hp with rfl | hp
        · exact h (a, w) (by simp)
        · exact insL_all hv (fun p hp => h p (by simp [hp])) p hp
      · rcases List.mem_cons.1 hp with rfl | hp
        · exact hv
        · exact h p (by simp [hp])
theorem put_any' {W0 W : World} {mb : Nat} {L : List (K M × Int)} (s : K M) (v : Int) (hv : 1 ≤ v ∧ v ≤ 1000000) (hl : L.length + 1 ≤ 999999) (hm : Mp 0 W0 cv19 keyOf mb L W) (hpos : ∀ p ∈ L, 1 ≤ p.2 ∧ p.2 ≤ 1000000) :
    Calls Try.prog 32 #[(Value.pointer (some ⟨mb, 2, none⟩)), .string s.1, (Value.int .i64 (v))] W fun e w' => e = .returned (.bool (!has s L)) ∧ Dm W0 mb (insL keyOf s v L) w' ∧ Chm mb W w' := by
  refine (Put_any (cmp19 0 W0) mb L s v W (by omega) hm).mono ?_
  rintro e w' ⟨rfl, m, c⟩
  refine ⟨?_, ⟨⟨cv19, m, .inr rfl⟩, insL_all (Q := fun v => 1 ≤ v ∧ v ≤ 1000000) hv hpos, ?_⟩, c⟩
  · unfold has; cases getL keyOf s L <;> rfl
  · have := insL_len (v := v) (k := s) hm.srt
    split at this <;> omega
end Go.Proofs.Ytglfmbpcapendaa.S
