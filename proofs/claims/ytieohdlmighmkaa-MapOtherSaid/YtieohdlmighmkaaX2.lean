import Derived.Test.YtieohdlmighmkaaX
import Derived.Test.YtieohdlmighmkaaO
namespace Go.Proofs.Ytieohdlmighmkaa.I
open Go Go.RowKit Go.Shelf Go.Proofs Go.Proofs.Ytieohdlmighmkaa
attribute [local go_sem] eql26n eql26f

theorem getL_some {key : Int → Int} {k : Int} : ∀ {L : List (Int × Int)}, (getL key k L).isSome = true ↔ ∃ e, e ∈ L ∧ key e.1 = key k
  | [] => by simp [getL]
  | (a, w) :: r => by
    rw [getL]
    by_cases h : key a = key k
    · simp [h]
    · rw [if_neg h, getL_some (L := r)]
      simp [h]
theorem insL_in {key : Int → Int} {k : Int} {v : Int} {e : Int × Int} : ∀ {L : List (Int × Int)}, e ∈ insL key k v L → e = (k, v) ∨ e ∈ L ∨ (e.2 = v ∧ key e.1 = key k ∧ ∃ w, (e.1, w) ∈ L)
  | [], h => by rw [insL, List.mem_singleton] at h; exact .inl h
  | (a, w) :: r, h => by
    rw [insL] at h
    split at h
    · rcases List.mem_cons.1 h with h | h
      · exact .inl h
      · exact .inr (.inl h)
    · split at h
      · rcases List.mem_cons.1 h with h | h
        · exact .inr (.inl (by rw [h]; simp))
        · rcases insL_in h with h | h | ⟨h1, h2, u, h3⟩
          · exact .inl h
          · exact .inr (.inl (by simp [h]))
          · exact .inr (.inr ⟨h1, h2, u, by simp [h3]⟩)
      · rcases List.mem_cons.1 h with rfl | h
        · exact .inr (.inr ⟨rfl, by show key a = key k; omega, w, by simp⟩)
        · exact .inr (.inl (by simp [h]))
theorem insL_has {key : Int → Int} {k v : Int} : ∀ {L : List (Int × Int)}, ∃ e, e ∈ insL key k v L ∧ key e.1 = key k
  | [] => ⟨(k, v), by simp [insL], rfl⟩
  | (a, w) :: r => by
    rw [insL]
    split
    · exact ⟨(k, v), by simp, rfl⟩
    · split
      · obtain ⟨e, h1, h2⟩ := insL_has (key := key) (k := k) (v := v) (L := r)
        exact ⟨e, by simp [h1], h2⟩
      · exact ⟨(a, v), by simp, by show key a = key k; omega⟩
theorem insL_keep {key : Int → Int} {k v : Int} : ∀ {L : List (Int × Int)} {e : Int × Int}, e ∈ L → ∃ e', e' ∈ insL key k v L ∧ key e'.1 = key e.1
  | (a, w) :: r, e, h => by
    rw [insL]
    split
    · exact ⟨e, by simp only [List.mem_cons] at h ⊢; exact .inr h, rfl⟩
    · split
      · rcases List.mem_cons.1 h with rfl | h
        · exact ⟨(a, w), by simp, rfl⟩
        · obtain ⟨e', h1, h2⟩ := insL_keep (key := key) (k := k) (v := v) h
          exact ⟨e', by simp [h1], h2⟩
      · rcases List.mem_cons.1 h with rfl | h
        · exact ⟨(a, v), by simp, rfl⟩
        · exact ⟨e, by simp [h], rfl⟩

structure Oth (n : Int) (xs : List Int) (i : Nat) (L : List (Int × Int)) : Prop where
  p1 : ∀ e, e ∈ L → ∃ j, j < i ∧ e.2 = (j : Int) ∧ dv n (red (xs[j]?.getD 0)) = dv n e.1 ∧ 0 ≤ e.1 ∧ e.1 < 1000
  p2 : ∀ j, j < i → ∃ e, e ∈ L ∧ dv n e.1 = dv n (red (xs[j]?.getD 0))
theorem Oth.next {n : Int} {xs : List Int} {i : Nat} {L : List (Int × Int)} (h : Oth n xs i L) {k : Int} (hk : k = red (xs[i]?.getD 0)) : Oth n xs (i + 1) (insL (fun a => - dv n a) k (i : Int) L) := by
  have hr := red_range (xs[i]?.getD 0)
  refine ⟨fun e he => ?_, fun j hj => ?_⟩
  · rcases insL_in he with rfl | he | ⟨h1, h2, w, h3⟩
    · exact ⟨i, by omega, rfl, by rw [hk], by rw [hk]; exact hr.1, by rw [hk]; exact hr.2⟩
    · obtain ⟨j, a1, a2⟩ := h.p1 e he
      exact ⟨j, by omega, a2⟩
    · obtain ⟨j, _, _, _, a3, a4⟩ := h.p1 (e.1, w) h3
      exact ⟨i, by omega, h1, by rw [← hk]; omega, a3, a4⟩
  · by_cases hji : j = i
    · subst hji
      obtain ⟨e, h1, h2⟩ := insL_has (key := fun a => - dv n a) (k := k) (v := (j : Int)) (L := L)
      exact ⟨e, h1, by rw [← hk]; have h2 : - dv n e.1 = - dv n k := h2; omega⟩
    · obtain ⟨e, h1, h2⟩ := h.p2 j (by omega)
      obtain ⟨e', h3, h4⟩ := insL_keep (key := fun a => - dv n a) (k := k) (v := (i : Int)) h1
      exact ⟨e', h3, by have h4 : - dv n e'.1 = - dv n e.1 := h4; omega⟩
def fr (n : Int) (xs : List Int) (k : Int) : Nat → Bool
  | 0 => true
  | j + 1 => fr n xs k j && (dv n (red (xs[j]?.getD 0)) != dv n k)
theorem fr_iff {n : Int} {xs : List Int} {k : Int} : ∀ {j : Nat}, fr n xs k j = true ↔ ∀ q, q < j → dv n (red (xs[q]?.getD 0)) ≠ dv n k
  | 0 => by simp [fr]
  | j + 1 => by
    rw [fr, Bool.and_eq_true, fr_iff (j := j), bne_iff_ne]
    constructor
    · rintro ⟨h1, h2⟩ q hq
      by_cases e : q = j
      · rw [e]; exact h2
      · exact h1 q (by omega)
    · intro h
      exact ⟨fun q hq => h q (by omega), h j (by omega)⟩
theorem Oth.fresh {n : Int} {xs : List Int} {i : Nat} {L : List (Int × Int)} (h : Oth n xs i L) (k : Int) : (getL (fun a => - dv n a) k L).isNone = fr n xs k i := by
  rw [Bool.eq_iff_iff, fr_iff, Option.isNone_iff_eq_none]
  constructor
  · intro hn q hq he
    obtain ⟨e, h1, h2⟩ := h.p2 q hq
    have : (getL (fun a => - dv n a) k L).isSome = true := getL_some.2 ⟨e, h1, by show - dv n e.1 = - dv n k; omega⟩
    rw [hn] at this
    cases this
  · intro hq
    cases hg : getL (fun a => - dv n a) k L with
    | none => rfl
    | some u =>
      exfalso
      obtain ⟨e, h1, h2⟩ := getL_some.1 (show (getL (fun a => - dv n a) k L).isSome = true by rw [hg]; rfl)
      obtain ⟨j, a1, _, a3, _⟩ := h.p1 e h1
      have h2 : - dv n e.1 = - dv n k := h2
      exact hq j a1 (by omega)

theorem dv_ediv {n a : Int} (hn : 1 ≤ n) (h0 : 0 ≤ a) (h1 : a < 1000) : dv n a = a / n := by
  have h2 : a / n ≤ a := Int.ediv_le_self n h0
  have h3 : 0 ≤ a / n := Int.ediv_nonneg h0 (by omega)
  unfold dv
  rw [Int.tdiv_eq_ediv_of_nonneg h0, Go.IntWalk.wrap64_in _ (by omega)]
theorem dv_small {n a : Int} (hn : 1 ≤ n) (h0 : 0 ≤ a) (h1 : a < 1000) : dv n a < 1073741824 := by
  have h2 : a.tdiv n ≤ a := by
    rw [Int.tdiv_eq_ediv_of_nonneg h0]
    exact Int.ediv_le_self n h0
  have h3 : 0 ≤ a.tdiv n := Int.tdiv_nonneg h0 (by omega)
  unfold dv
  rw [Go.IntWalk.wrap64_in _ (by omega)]
  omega
set_option maxRecDepth 100000 in
set_option maxHeartbeats 2000000 in
theorem other_walk (p : Option Addr) (xs : List Int) (len cap : Nat) (n : Int) (W : World) (hlen : xs.length = len) (hP : ParK W p xs) (hn0 : -9223372036854775808 ≤ n) (hn1 : n ≤ 9223372036854775807) :
    Calls Try.prog 4 #[.slice p len cap, (Value.int .i64 (n))] W fun e W' => e = .returned (.bool true) ∧ Below W.heap.size W W' := by
  have hbn := below_alloc W (.cells #[(Value.int .i64 (n))] 3)
  have hnc := Cell.new W (Value.int .i64 (n)) 3
  have hbeg := S.begun_any (W.alloc (.cells #[(Value.int .i64 (n))] 3))
  by_cases hr : 1 ≤ n ∧ n ≤ 50
  · obtain ⟨hr1, hr2⟩ := hr
    go_enter Try.func4, Try.ntmps4
    go_wp2_with (first
      | (go_at_call 6; (with_reducible refine hbeg.mono ?_); rintro e x0 ⟨rfl, b0⟩; have n0 := hnc.of (b0.block _ hnc.lt); have b0 := below_on hbn b0; have hnew := new_any 13 #[(Value.pointer (some ⟨W.heap.size, 0, none⟩))] (fun a => - dv n a) x0; have n0c := n0.1; clear hnc hbn hbeg)
      | (go_at_call 7; (with_reducible refine hnew.mono ?_); rintro e x1 ⟨rfl, m1, b1⟩; clear hnew n0c))
    obtain ⟨mb, hmb⟩ : ∃ mb, x0.heap.size = mb := ⟨_, rfl⟩
    have hWm : W.heap.size < mb := by have := n0.lt; omega
    have hc := cmp13 (D := mb) (W0 := x0) hr1 hWm n0.1
    rw [hmb] at m1 ⊢
    have HS := Lib.hid m1
    have HN := Lib.hid n0
    clear m1 b1 n0
    go_loopw [7, 8] (fun wv iv w => ∃ i : Nat, i ≤ 40 ∧ i ≤ len ∧ iv = .int .i64 (i : Int) ∧ ∃ L : List (Int × Int), L.length ≤ i ∧ wv = .int .i64 (L.length : Int) ∧ Mp mb x0 13 #[(Value.pointer (some ⟨W.heap.size, 0, none⟩))] (fun a => - dv n a) mb L w ∧ Oth n xs i L) (fun _ iv _ => 40 - (intOf iv).toNat)
    case atStart => exact ⟨0, Nat.zero_le _, Nat.zero_le _, rfl, [], Nat.le_refl _, rfl, HS.out, ⟨fun e he => by simp at he, fun j hj => by omega⟩⟩
    case round =>
      clear HS
      obtain ⟨i, hi40, hil, rfl, L, hLi, rfl, hM, hO⟩ := hrel
      have hnw : wr.cell? ⟨W.heap.size, 0, none⟩ = some (Value.int .i64 (n)) := (hM.bel.cell (p := ⟨W.heap.size, 0, none⟩) hWm).trans HN.out.1
      have hpc : ∀ w, Below mb x0 w → ∀ j, j < len → ∃ b off, p = some ⟨b, off, none⟩ ∧ w.cell? ⟨b, off + j, none⟩ = some (Value.int .i64 (xs[j]?.getD 0)) := fun w hw j hj => by
        obtain ⟨b, off, rfl, hbW, hcell⟩ := hP j (by omega)
        refine ⟨b, off, rfl, ?_⟩
        rw [hw.cell (p := ⟨b, off + j, none⟩) (by show b < mb; omega), b0.cell (p := ⟨b, off + j, none⟩) hbW, hcell]
        simp [show j < xs.length by omega]
      by_cases hlt : i < len ∧ i < 40
      · obtain ⟨h1, h2⟩ := hlt
        have hd40 : decide ((i : Int) < 40) = true := decide_eq_true (by omega)
        obtain ⟨b, off, rfl, hcw⟩ := hpc wr hM.bel i h1
        obtain ⟨x, hx⟩ : ∃ x, xs[i]?.getD 0 = x := ⟨_, rfl⟩
        rw [hx] at hcw
        go_wp2_with fail
        obtain ⟨k, hk⟩ : ∃ k, red x = k := ⟨_, rfl⟩
        have hkk : (wrap64 (x.tmod 1000 + 1000)).tmod 1000 = k := hk
        rw [hkk]
        have hkx : k = red (xs[i]?.getD 0) := by rw [hx, hk]
        have HX := Lib.hid (And.intro hk hkx)
        clear hkk hkx hk
        go_loopw [10, 11] (fun bv jv w => ∃ j : Nat, j ≤ i ∧ jv = .int .i64 (j : Int) ∧ bv = .bool (fr n xs k j) ∧ ∃ q, w = wr.drewN q) (fun _ jv _ => i - (intOf jv).toNat)
        case atStart => exact ⟨0, Nat.zero_le _, rfl, rfl, 0, rfl⟩
        case round =>
          obtain ⟨j, hji, rfl, rfl, q, rfl⟩ := hrel
          by_cases hjl : j < i
          · obtain ⟨b', off', he, hcj0⟩ := hpc wr hM.bel j (by omega)
            injection he with he
            injection he with he1 he2 _
            subst he1; subst he2
            have hcj : ∀ q, (wr.drewN q).cell? ⟨b, off + j, none⟩ = some (Value.int .i64 (xs[j]?.getD 0)) := fun q => hcj0
            have hnq : ∀ q, (wr.drewN q).cell? ⟨W.heap.size, 0, none⟩ = some (Value.int .i64 (n)) := fun q => hnw
            obtain ⟨y, hy⟩ : ∃ y, xs[j]?.getD 0 = y := ⟨_, rfl⟩
            rw [hy] at hcj
            have hn0' : ¬ n = 0 := by omega
            have hfn : fr n xs k (j + 1) = (fr n xs k j && (dv n (red y) != dv n k)) := by rw [fr, hy]
            cases hfr : fr n xs k j with
            | true =>
              go_wp2_with fail
              go_quiet (fail)
              go_wp2_with fail
              exact ⟨⟨j + 1, by omega, by simp, by rw [hfn, hfr, Bool.true_and]; rfl, _, rfl⟩, by simp [intOf]; omega⟩
            | false =>
              go_wp2_with fail
              go_quiet (fail)
              go_wp2_with fail
              exact ⟨⟨j + 1, by omega, by simp, by rw [hfn, hfr, Bool.false_and], _, rfl⟩, by simp [intOf]; omega⟩
          · obtain rfl : j = i := by omega
            have hfs := hO.fresh k
            have hput := Put_any hc mb L k (j : Int) (wr.drewN q) (by omega) (hM.later (below_drewN wr q))
            rw [hfs] at hput
            have hOn := hO.next HX.out.2
            have hil2 : (insL (fun a => - dv n a) k (j : Int) L).length = L.length + (if fr n xs k j = true then 1 else 0) := by
              rw [insL_len hM.srt, ← hfs]
              cases getL (fun a => - dv n a) k L <;> simp
            cases hfr : fr n xs k j with
            | true =>
              rw [hfr] at hput hil2
              go_wp2_with (go_at_call 9; (with_reducible refine hput.mono ?_); rintro e y1 ⟨rfl, m2, c2⟩)
              exact ⟨⟨j + 1, by omega, by omega, by simp, _, by rw [hil2]; simp; omega, by rw [hil2]; simp, m2, hOn⟩, by simp [intOf]; omega⟩
            | false =>
              rw [hfr] at hput hil2
              go_wp2_with (go_at_call 9; (with_reducible refine hput.mono ?_); rintro e y1 ⟨rfl, m2, c2⟩)
              exact ⟨⟨j + 1, by omega, by omega, by simp, _, by rw [hil2]; simp; omega, by rw [hil2]; simp, m2, hOn⟩, by simp [intOf]; omega⟩
      · have hex : ¬ i < len ∨ (i < len ∧ ¬ i < 40) := by omega
        clear hlt
        have hMq := Lib.hid hM
        rcases hex with hex | ⟨hex, hex'⟩
        all_goals
          go_wp2_with fail
          go_loopw [12, 13] (fun zv iv w => ∃ (q : Nat) (z : Int), q ≤ L.length ∧ iv = .int .i64 (q : Int) ∧ zv = .int .i64 z ∧ (∀ (h : q < L.length), dv n L[q].1 < z) ∧ Mp mb x0 13 #[(Value.pointer (some ⟨W.heap.size, 0, none⟩))] (fun a => - dv n a) mb L w) (fun _ iv _ => L.length - (intOf iv).toNat)
          case atStart =>
            refine ⟨0, 1073741824, Nat.zero_le _, rfl, rfl, fun h => ?_, hMq.out⟩
            obtain ⟨_, _, _, _, a3, a4⟩ := hO.p1 _ (List.getElem_mem h)
            exact dv_small hr1 a3 a4
          case round =>
            obtain ⟨q, z, hq, rfl, rfl, hz, hM2⟩ := hrel
            have hln := Len_any mb L wr hM2
            by_cases hql : q < L.length
            · have hat := At_any mb L (q : Int) (by omega) (by omega) wr (by omega) hM2
              have hlk : look L (q : Int) = some L[q] := by unfold look; rw [if_pos (by omega)]; simp [hql]
              rw [hlk] at hat
              obtain ⟨j, hji, hv, hd, ha0, ha1⟩ := hO.p1 _ (List.getElem_mem hql)
              have hz1 := hz hql
              have hnext : ∀ (h : q + 1 < L.length), dv n L[q + 1].1 < dv n L[q].1 := fun h => by
                have h1 := List.pairwise_iff_getElem.1 hM2.srt q (q + 1) hql h (by omega)
                have h1 : - dv n L[q].1 < - dv n L[q + 1].1 := h1
                omega
              obtain ⟨⟨a, v⟩, hav⟩ : ∃ e, L[q] = e := ⟨_, rfl⟩
              rw [hav] at hat hv hd ha0 ha1 hz1 hnext
              dsimp only at hv hd ha0 ha1 hz1 hnext
              subst hv
              have hdv := dv_ediv hr1 ha0 ha1
              have hat : Calls Try.prog 15 #[(Value.pointer (some ⟨mb, 0, none⟩)), (Value.int .i64 ((q : Int)))] wr fun e w' => e = .returned (.tuple #[(Value.int .i64 (a)), (Value.int .i64 ((j : Int))), .bool true]) ∧ Below wr.heap.size wr w' := hat
              have hjl : j < len := by omega
              have hn0' : ¬ n = 0 := by omega
              go_wp2_with (first
                | (go_at_call 14; (with_reducible refine hln.mono ?_); rintro e y1 ⟨rfl, hy1⟩; subst y1)
                | (go_at_call 15; (with_reducible refine hat.mono ?_); rintro e y2 ⟨rfl, b2⟩; have m3 := hM2.later b2; obtain ⟨b, off, rfl, hcj⟩ := hpc y2 m3.bel j hjl; have hnw2 : y2.cell? ⟨W.heap.size, 0, none⟩ = some (Value.int .i64 (n)) := (m3.bel.cell (p := ⟨W.heap.size, 0, none⟩) hWm).trans HN.out.1))
              obtain ⟨y, hy⟩ : ∃ y, xs[j]?.getD 0 = y := ⟨_, rfl⟩
              rw [hy] at hcj hd
              unfold dv at hz1 hd
              unfold red at hd
              have hb1 : decide (z ≤ IntKind.i64.wrap (a.tdiv n)) = false := decide_eq_false (by rw [Go.IntWalk.i64_left]; omega)
              have hb2 : decide ((j : Int) < 0) = false := decide_eq_false (by omega)
              have hb3 : decide ((len : Int) ≤ (j : Int)) = false := decide_eq_false (by omega)
              have hb4 : (IntKind.i64.wrap (((IntKind.i64.wrap (y.tmod 1000 + 1000)).tmod 1000).tdiv n) != IntKind.i64.wrap (a.tdiv n)) = false := by rw [Go.IntWalk.i64_left, Go.IntWalk.i64_left, Go.IntWalk.i64_left, hd]; simp
              go_quiet (fail)
              go_wp2_with fail
              exact ⟨⟨q + 1, a / n, by omega, by simp, rfl, fun h => by rw [← hdv]; exact hnext h, m3.later (below_drewN y2 nq)⟩, by simp [intOf]; omega⟩
            · go_wp2_with (first
                | (go_at_call 14; (with_reducible refine hln.mono ?_); rintro e y1 ⟨rfl, hy1⟩; subst y1))
              go_ret
              exact ⟨rfl, b0.trans (hM2.bel.mono (by omega))⟩
  · have hr' : n < 1 ∨ (1 ≤ n ∧ 50 < n) := by omega
    clear hr hP
    rcases hr' with hr' | ⟨hr1, hr2⟩
    all_goals
      go_enter Try.func4, Try.ntmps4
      go_wp2_with (go_at_call 6; (with_reducible refine hbeg.mono ?_); rintro e x0 ⟨rfl, b0⟩; have n0c := (hnc.of (b0.block _ hnc.lt)).1)
      go_ret
      exact ⟨rfl, below_on hbn b0⟩
end Go.Proofs.Ytieohdlmighmkaa.I
