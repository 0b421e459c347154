import Derived.Test.YtjlnfeableleeaaJ
namespace Go.Proofs.Ytjlnfeableleeaa
open Go Go.RowKit Go.Shelf Go.Proofs
attribute [local go_sem] Oper.semAt_some
attribute [local go_sem] eql26n eql26f eql32f eql34f eql37f eql42n eql42f wide_fn wide_depth

theorem givesIn_skip {P : Program} {ops : Array Oper} {A : Act} {R : World → Prop} {o : Oper} {w : World} (hw : Region.wanted o (yielded ops A.tmps) = false) (hR : R w) : GivesIn P ops A R o undef w := by
  unfold GivesIn
  rw [hw]
  exact ⟨rfl, hR⟩
theorem givesIn_call {P : Program} {ops : Array Oper} {a : Act} {w : World} {dst : Option Tmp} {g : Operand} {xl : List Operand} {tys : Array TypeId} {ty : TypeId} {pos : String} {after : Array Edge} {gd : Option (Nat × Bool)} {v : Value} {R : World → Prop}
    (yv : Value) (al : List Value) (hw : Region.wanted { dst := dst, op := .call { callee := .value g, args := xl.toArray, argTypes := tys }, type := ty, pos := pos, after := after, guard := gd } (yielded ops a.tmps) = true)
    (hy : a.eval g = yv) (hx' : xl.map a.eval = al) (h : CallsV P yv al.toArray w fun e w' => e = .returned v ∧ R w') :
    GivesIn P ops a R { dst := dst, op := .call { callee := .value g, args := xl.toArray, argTypes := tys }, type := ty, pos := pos, after := after, guard := gd } v w := by
  unfold GivesIn
  rw [if_pos hw]
  exact uponGives_callV yv al hy hx' h

/-- A list that is left, as it lies in memory: its block, its place, its capacity, its ints. -/
structure Rest where
  b : Nat
  o : Nat
  c : Nat
  xs : List Int
def Rest.v (p : Rest) : Value := .slice (some ⟨p.b, p.o, none⟩) p.xs.length p.c
def Rest.h (p : Rest) : Int := p.xs[0]?.getD 0
/-- The lists that are left lie in the row at block g; none is empty. -/
structure LeftIn (W : World) (g : Nat) (L : List Rest) : Prop where
  cells : ∀ j (hj : j < L.length), W.cell? ⟨g, j, none⟩ = some L[j].v
  pos : ∀ p, p ∈ L → 0 < p.xs.length ∧ p.xs.length ≤ 1000000
  ints : ∀ p, p ∈ L → ∀ i, i < p.xs.length → W.cell? ⟨p.b, p.o + i, none⟩ = some (Value.int .i64 (p.xs[i]?.getD 0))
theorem LeftIn.head {W : World} {g : Nat} {L : List Rest} (h : LeftIn W g L) {j : Nat} (hj : j < L.length) : W.cell? ⟨L[j].b, L[j].o, none⟩ = some (Value.int .i64 (L[j].h)) := by
  have := h.ints L[j] (List.getElem_mem hj) 0 (h.pos _ (List.getElem_mem hj)).1
  exact this
theorem LeftIn.of {W W' : World} {g : Nat} {L : List Rest} (h : LeftIn W g L) (hg : ∀ o, W'.cell? ⟨g, o, none⟩ = W.cell? ⟨g, o, none⟩) (hb : ∀ p, p ∈ L → ∀ o, W'.cell? ⟨p.b, o, none⟩ = W.cell? ⟨p.b, o, none⟩) : LeftIn W' g L :=
  ⟨fun j hj => (hg _).trans (h.cells j hj), h.pos, fun p hp i hi => (hb p hp _).trans (h.ints p hp i hi)⟩

/-- The function value that says which of two is less, by a key. -/
def Lss (fv : Value) (key : Int → Int) : Prop := ∀ a b w, CallsV Try.prog fv #[(Value.int .i64 (a)), (Value.int .i64 (b))] w fun e w' => e = .returned (.bool (decide (key a < key b))) ∧ w' = w

set_option maxRecDepth 100000 in
set_option maxHeartbeats 1000000 in
/-- lowest: the first of the least. -/
theorem f52_any (gf : Nat) (lf : Array Value) (key : Int → Int) (hless : Lss (.func (.func gf) #[] lf) key) (g cap n : Nat) (L : List Rest) (HN : Hid (L.length = n)) (hL' : 0 < n) (hm : n ≤ 1000000) (W : World) (h : LeftIn W g L) :
    Calls Try.prog 52 #[.func (.func gf) #[] lf, .slice (some ⟨g, 0, none⟩) n cap] W fun e W' => ∃ low : Nat, ∃ hl : low < L.length, e = .returned (Value.int .i64 ((low : Int))) ∧
      (∀ j (hj : j < L.length), key L[low].h ≤ key L[j].h) ∧ (∀ j (hj : j < low), key L[low].h < key (L[j]'(by omega)).h) ∧ ∃ q, W' = W.drewN q := by
  obtain ⟨R, hR⟩ : ∃ R : Ending → World → Prop, (fun (e : Ending) (W' : World) => ∃ low : Nat, ∃ hl : low < L.length, e = .returned (Value.int .i64 ((low : Int))) ∧
      (∀ j (hj : j < L.length), key L[low].h ≤ key L[j].h) ∧ (∀ j (hj : j < low), key L[low].h < key (L[j]'(by omega)).h) ∧ ∃ q, W' = W.drewN q) = R := ⟨_, rfl⟩
  rw [hR]
  have HR := Lib.hid hR
  clear hR
  refine (callsIn_wide (n := 0)).1 ?_
  refine callsIn_of_wp Try.func52 rfl trivial ?_ rfl
  simp only [Try.ntmps52, List.size_toArray, List.length_cons, List.length_nil, Nat.reduceAdd, Nat.reduceSub, Array.replicate_succ, Array.replicate_zero, List.push_toArray, List.append_toArray, List.nil_append, List.cons_append]
  gi_wp2
  gi_loopw [5, 6] (fun lo i wr => ∃ (low k : Nat) (hl : low < L.length) (hk : k ≤ L.length), lo = .int .i64 (low : Int) ∧ i = .int .i64 (k : Int) ∧ low < k ∧
      (∀ j (hj : j < k), key L[low].h ≤ key (L[j]'(by omega)).h) ∧ (∀ j (hj : j < low), key L[low].h < key (L[j]'(by omega)).h) ∧ ∃ q, wr = W.drewN q) (fun _ i _ => n - (intOf i).toNat)
  case atStart =>
    have := HN.out
    refine ⟨0, 1, by omega, by omega, rfl, rfl, by omega, fun j hj => ?_, fun j hj => by omega, 0, rfl⟩
    obtain rfl : j = 0 := by omega
    exact Int.le_refl _
  case round =>
    obtain ⟨low, k, hl, hk, rfl, rfl, hlk, h1, h2, q, rfl⟩ := hrel
    by_cases hlt : k < n
    · have hkl : k < L.length := by rw [HN.out]; exact hlt
      have x1 := h.cells k hkl
      have x2 := h.cells low hl
      have x3 := h.head hkl
      have x4 := h.head hl
      have x5 := (h.pos _ (List.getElem_mem hkl)).1
      have x6 := (h.pos _ (List.getElem_mem hl)).1
      have x7 := (h.pos _ (List.getElem_mem hkl)).2
      have x8 := (h.pos _ (List.getElem_mem hl)).2
      obtain ⟨hk', hke⟩ : ∃ a, L[k].h = a := ⟨_, rfl⟩
      obtain ⟨hl', hle⟩ : ∃ a, L[low].h = a := ⟨_, rfl⟩
      obtain ⟨⟨b1, o1, c1, xs1⟩, e1⟩ : ∃ p, L[k] = p := ⟨_, rfl⟩
      obtain ⟨⟨b2, o2, c2, xs2⟩, e2⟩ : ∃ p, L[low] = p := ⟨_, rfl⟩
      rw [hke] at x3
      rw [hle] at x4
      rw [e1] at x1 x3 x5 x7
      rw [e2] at x2 x4 x6 x8
      unfold Rest.v at x1 x2
      dsimp only at x1 x2 x3 x4 x5 x6 x7 x8
      have HK : Hid (L[k].h = hk' ∧ L[low].h = hl') := Lib.hid ⟨hke, hle⟩
      have hlow : low < n := by omega
      have h1' := Lib.hid h1
      have h2' := Lib.hid h2
      clear h h1 h2 hke hle e1 e2
      gi_wp2_with fail
      obtain ⟨r, hr⟩ : ∃ r, decide (key hk' < key hl') = r := ⟨_, rfl⟩
      have HRr : Hid (decide (key hk' < key hl') = r) := Lib.hid hr
      clear hr
      refine wpIn_region_par (m := 0) rfl 14 [.func (.func gf) #[] lf, .slice (some ⟨g, 0, none⟩) n cap, (Value.int .i64 ((k : Int))), .pointer (some ⟨g, k, none⟩), .slice (some ⟨b1, o1, none⟩) xs1.length c1, .pointer (some ⟨b1, o1, none⟩), (Value.int .i64 (hk')), .slice (some ⟨g, 0, none⟩) n cap, (Value.int .i64 ((low : Int))), .pointer (some ⟨g, low, none⟩), .slice (some ⟨b2, o2, none⟩) xs2.length c2, .pointer (some ⟨b2, o2, none⟩), (Value.int .i64 (hl')), .bool r] (fun _ w => w = W.drewN (q + 1))
        { tmps := #[.func (.func gf) #[] lf, .slice (some ⟨g, 0, none⟩) n cap, undef, undef, (Value.int .i64 (0)), (Value.int .i64 ((low : Int))), (Value.int .i64 ((k : Int))), (Value.int .i64 ((k : Int))), .slice (some ⟨g, 0, none⟩) n cap, (Value.int .i64 ((n : Int))), .bool true, u11, u12, .func (.func gf) #[] lf, .slice (some ⟨g, 0, none⟩) n cap, (Value.int .i64 ((k : Int))), .pointer (some ⟨g, k, none⟩), .slice (some ⟨b1, o1, none⟩) xs1.length c1, .pointer (some ⟨b1, o1, none⟩), (Value.int .i64 (hk')), .slice (some ⟨g, 0, none⟩) n cap, (Value.int .i64 ((low : Int))), .pointer (some ⟨g, low, none⟩), .slice (some ⟨b2, o2, none⟩) xs2.length c2, .pointer (some ⟨b2, o2, none⟩), (Value.int .i64 (hl')), .bool r, u27, undef], defers := [] }
        (by kernel_rfl) (by kernel_rfl) (by simp only [putA, dstAt, Act.put, List.getElem?_toArray, List.getElem?_cons_zero, List.getElem?_cons_succ, Option.bind_some, List.setIfInBounds_toArray, List.set_cons_zero, List.set_cons_succ, List.getD_cons_zero, List.getD_cons_succ]) (by kernel_rfl) rfl ?heads ?tail
      case heads =>
        refine ⟨?x0, ?x1, ?x2, ?x3, ?x4, ?x5, ?x6, ?x7, ?x8, ?x9, ?x10, ?x11, ?x12, ?x13, trivial⟩
        case x0 =>
          rintro l w hs hl rfl
          refine givesIn_value (by rfl) ?_ rfl
          go_simp
        case x1 =>
          rintro l w hs hl rfl
          refine givesIn_value (by rfl) ?_ rfl
          go_simp
        case x2 =>
          rintro l w hs hl rfl
          refine givesIn_value (by rfl) ?_ rfl
          go_simp
        case x3 =>
          rintro l w hs hl rfl
          refine givesIn_value (by rfl) ?_ rfl
          go_simp
        case x4 =>
          rintro l w hs hl rfl
          refine givesIn_value (by rfl) ?_ rfl
          go_simp
        case x5 =>
          rintro l w hs hl rfl
          refine givesIn_value (by rfl) ?_ rfl
          go_simp
        case x6 =>
          rintro l w hs hl rfl
          refine givesIn_value (by rfl) ?_ rfl
          go_simp
        case x7 =>
          rintro l w hs hl rfl
          refine givesIn_value (by rfl) ?_ rfl
          go_simp
        case x8 =>
          rintro l w hs hl rfl
          refine givesIn_value (by rfl) ?_ rfl
          go_simp
        case x9 =>
          rintro l w hs hl rfl
          refine givesIn_value (by rfl) ?_ rfl
          go_simp
        case x10 =>
          rintro l w hs hl rfl
          refine givesIn_value (by rfl) ?_ rfl
          go_simp
        case x11 =>
          rintro l w hs hl rfl
          refine givesIn_value (by rfl) ?_ rfl
          go_simp
        case x12 =>
          rintro l w hs hl rfl
          refine givesIn_value (by rfl) ?_ rfl
          go_simp
        case x13 =>
          rintro l w hs hl rfl
          exact givesIn_call (.func (.func gf) #[] lf) [(Value.int .i64 (hk')), (Value.int .i64 (hl'))] (by rfl) rfl rfl ((hless hk' hl' _).mono (by rintro e w' ⟨rfl, rfl⟩; exact ⟨by rw [HRr.out], rfl⟩))
      case tail =>
        rintro w rfl
        dsimp only [List.drop]
        cases r with
        | true =>
          gi_wp2_with fail
          have hr' : key hk' < key hl' := of_decide_eq_true HRr.out
          obtain ⟨k1, k2⟩ := HK.out
          refine ⟨⟨k, k + 1, hkl, by omega, rfl, by simp, by omega, fun j hj => ?_, fun j hj => ?_, q + 1, rfl⟩, by simp [intOf]; omega⟩
          · by_cases hjk : j = k
            · subst hjk; exact Int.le_refl _
            · have := h1'.out j (by omega)
              rw [k2] at this
              rw [k1]; omega
          · have := h1'.out j (by omega)
            rw [k2] at this
            rw [k1]; omega
        | false =>
          gi_wp2_with fail
          have hr' : ¬ key hk' < key hl' := of_decide_eq_false HRr.out
          obtain ⟨k1, k2⟩ := HK.out
          refine ⟨⟨low, k + 1, hl, by omega, rfl, by simp, by omega, fun j hj => ?_, h2'.out, q + 1, rfl⟩, by simp [intOf]; omega⟩
          by_cases hjk : j = k
          · subst hjk; rw [k1, k2]; omega
          · exact h1'.out j (by omega)
    · gi_wp2_with fail
      have hkn : k = L.length := by have := HN.out; omega
      subst hkn
      rw [← HR.out]
      exact ⟨low, hl, rfl, h1, h2, q, rfl⟩

set_option maxRecDepth 100000 in
set_option maxHeartbeats 1000000 in
/-- undercut: is another list's first one less? -/
theorem f53_any (gf : Nat) (lf : Array Value) (key : Int → Int) (hless : Lss (.func (.func gf) #[] lf) key) (g cap n : Nat) (L : List Rest) (HN : Hid (L.length = n)) (hm : n ≤ 1000000) (k : Nat) (hk : k < L.length) (W : World) (h : LeftIn W g L) :
    Calls Try.prog 53 #[.func (.func gf) #[] lf, .slice (some ⟨g, 0, none⟩) n cap, (Value.int .i64 ((k : Int)))] W fun e W' => ∃ r : Bool, e = .returned (.bool r) ∧
      (r = true → ∃ (j : Nat) (hj : j < L.length), key L[j].h < key L[k].h) ∧ (r = false → ∀ j (hj : j < L.length), key L[k].h ≤ key L[j].h) ∧ ∃ q, W' = W.drewN q := by
  obtain ⟨R, hR⟩ : ∃ R : Ending → World → Prop, (fun (e : Ending) (W' : World) => ∃ r : Bool, e = .returned (.bool r) ∧
      (r = true → ∃ (j : Nat) (hj : j < L.length), key L[j].h < key L[k].h) ∧ (r = false → ∀ j (hj : j < L.length), key L[k].h ≤ key L[j].h) ∧ ∃ q, W' = W.drewN q) = R := ⟨_, rfl⟩
  rw [hR]
  have HR := Lib.hid hR
  clear hR
  have hkn : k < n := by rw [← HN.out]; exact hk
  refine (callsIn_wide (n := 0)).1 ?_
  refine callsIn_of_wp Try.func53 rfl trivial ?_ rfl
  simp only [Try.ntmps53, List.size_toArray, List.length_cons, List.length_nil, Nat.reduceAdd, Nat.reduceSub, Array.replicate_succ, Array.replicate_zero, List.push_toArray, List.append_toArray, List.nil_append, List.cons_append]
  gi_wp2
  gi_loopw [11] (fun i wr => ∃ (j : Nat) (hj : j ≤ L.length), i = .int .i64 (j : Int) ∧ (∀ j' (hj' : j' < j), key L[k].h ≤ key (L[j']'(by omega)).h) ∧ ∃ q, wr = W.drewN q) (fun i _ => n - (intOf i).toNat)
  case atStart => exact ⟨0, Nat.zero_le _, rfl, fun j hj => by omega, 0, rfl⟩
  case round =>
    obtain ⟨j, hj, rfl, h1, q, rfl⟩ := hrel
    by_cases hlt : j < n
    · have hjl : j < L.length := by rw [HN.out]; exact hlt
      have x1 := h.cells j hjl
      have x2 := h.cells k hk
      have x3 := h.head hjl
      have x4 := h.head hk
      have x5 := (h.pos _ (List.getElem_mem hjl)).1
      have x6 := (h.pos _ (List.getElem_mem hk)).1
      have x7 := (h.pos _ (List.getElem_mem hjl)).2
      have x8 := (h.pos _ (List.getElem_mem hk)).2
      obtain ⟨hj', hje⟩ : ∃ a, L[j].h = a := ⟨_, rfl⟩
      obtain ⟨hk', hke⟩ : ∃ a, L[k].h = a := ⟨_, rfl⟩
      obtain ⟨⟨b1, o1, c1, xs1⟩, e1⟩ : ∃ p, L[j] = p := ⟨_, rfl⟩
      obtain ⟨⟨b2, o2, c2, xs2⟩, e2⟩ : ∃ p, L[k] = p := ⟨_, rfl⟩
      rw [hje] at x3
      rw [hke] at x4
      rw [e1] at x1 x3 x5 x7
      rw [e2] at x2 x4 x6 x8
      unfold Rest.v at x1 x2
      dsimp only at x1 x2 x3 x4 x5 x6 x7 x8
      have HK : Hid (L[j].h = hj' ∧ L[k].h = hk') := Lib.hid ⟨hje, hke⟩
      have h1' := Lib.hid h1
      clear h h1 hje hke e1 e2
      have hend : ∀ r : Bool, decide (key hj' < key hk') = r → r = false → ∀ j' (hj' : j' < j + 1), key L[k].h ≤ key (L[j']'(by omega)).h := fun r h1 h2 j' hj'' => by
        subst h2
        have hr' : ¬ key hj' < key hk' := of_decide_eq_false h1
        obtain ⟨k1, k2⟩ := HK.out
        by_cases hjk : j' = j
        · subst hjk; rw [k1, k2]; omega
        · exact h1'.out j' (by omega)
      have hself : j = k → ∀ j' (hj' : j' < j + 1), key L[k].h ≤ key (L[j']'(by omega)).h := fun hjk j' hj'' => by
        by_cases e : j' = j
        · subst e; subst hjk; exact Int.le_refl _
        · exact h1'.out j' (by omega)
      have HS := Lib.hid hself
      clear hself
      by_cases hjk : j = k
      · have t1 : ((j : Int) != (k : Int)) = false := by simp [hjk]
        have t2 : ((j : Int) == (k : Int)) = true := by simp [hjk]
        have HJ : Hid (j = k) := Lib.hid hjk
        clear hend hjk
        gi_wp2_with fail
        refine wpIn_region_par (m := 0) rfl 16 [(Value.int .i64 ((j : Int))), (Value.int .i64 ((k : Int))), .bool false, .bool false, undef, undef, undef, undef, undef, undef, undef, undef, undef, undef, undef, .bool false] (fun _ w => w = W.drewN (q + 1))
          { tmps := #[.func (.func gf) #[] lf, .slice (some ⟨g, 0, none⟩) n cap, (Value.int .i64 ((k : Int))), undef, undef, undef, u6, (Value.int .i64 ((j : Int))), .slice (some ⟨b1, o1, none⟩) xs1.length c1, .slice (some ⟨g, 0, none⟩) n cap, (Value.int .i64 ((n : Int))), (Value.int .i64 ((j : Int))), .bool true, (Value.int .i64 ((j : Int))), .pointer (some ⟨g, j, none⟩), .slice (some ⟨b1, o1, none⟩) xs1.length c1, (Value.int .i64 ((j : Int))), (Value.int .i64 ((k : Int))), .bool false, .bool false, undef, undef, undef, undef, undef, undef, undef, undef, undef, undef, undef, .bool false, u32], defers := [] }
          (by kernel_rfl) (by kernel_rfl) (by simp only [putA, dstAt, Act.put, List.getElem?_toArray, List.getElem?_cons_zero, List.getElem?_cons_succ, Option.bind_some, List.setIfInBounds_toArray, List.set_cons_zero, List.set_cons_succ, List.getD_cons_zero, List.getD_cons_succ]) (by kernel_rfl) rfl ?yheads ?ytail
        case yheads =>
          refine ⟨?y0, ?y1, ?y2, ?y3, ?y4, ?y5, ?y6, ?y7, ?y8, ?y9, ?y10, ?y11, ?y12, ?y13, ?y14, ?y15, trivial⟩
          case y0 =>
            rintro l w hs hl rfl
            refine givesIn_value (by rfl) ?_ rfl
            go_simp
          case y1 =>
            rintro l w hs hl rfl
            refine givesIn_value (by rfl) ?_ rfl
            go_simp
          case y2 =>
            rintro l w hs hl rfl
            refine givesIn_value (by rfl) ?_ rfl
            go_simp
          case y3 =>
            rintro l w hs hl rfl
            refine givesIn_value (by rfl) ?_ rfl
            go_simp
          case y4 =>
            rintro l w hs hl rfl
            exact givesIn_skip (by rfl) rfl
          case y5 =>
            rintro l w hs hl rfl
            exact givesIn_skip (by rfl) rfl
          case y6 =>
            rintro l w hs hl rfl
            exact givesIn_skip (by rfl) rfl
          case y7 =>
            rintro l w hs hl rfl
            exact givesIn_skip (by rfl) rfl
          case y8 =>
            rintro l w hs hl rfl
            exact givesIn_skip (by rfl) rfl
          case y9 =>
            rintro l w hs hl rfl
            exact givesIn_skip (by rfl) rfl
          case y10 =>
            rintro l w hs hl rfl
            exact givesIn_skip (by rfl) rfl
          case y11 =>
            rintro l w hs hl rfl
            exact givesIn_skip (by rfl) rfl
          case y12 =>
            rintro l w hs hl rfl
            exact givesIn_skip (by rfl) rfl
          case y13 =>
            rintro l w hs hl rfl
            exact givesIn_skip (by rfl) rfl
          case y14 =>
            rintro l w hs hl rfl
            exact givesIn_skip (by rfl) rfl
          case y15 =>
            rintro l w hs hl rfl
            refine givesIn_value (by rfl) ?_ rfl
            go_simp
        case ytail =>
          rintro w rfl
          dsimp only [List.drop]
          gi_wp2_with fail
          refine ⟨⟨j + 1, by omega, by simp, HS.out HJ.out, q + 1, rfl⟩, by simp [intOf]; omega⟩
      · have t1 : ((j : Int) != (k : Int)) = true := by simp; omega
        have t2 : ((j : Int) == (k : Int)) = false := by simp; omega
        have HJ : Hid (j ≠ k) := Lib.hid hjk
        have HE := Lib.hid hend
        obtain ⟨r, hr⟩ : ∃ r, decide (key hj' < key hk') = r := ⟨_, rfl⟩
        have HRr : Hid (decide (key hj' < key hk') = r) := Lib.hid hr
        clear hend hjk hr
        gi_wp2_with fail
        refine wpIn_region_par (m := 0) rfl 16 [(Value.int .i64 ((j : Int))), (Value.int .i64 ((k : Int))), .bool true, .bool true, .func (.func gf) #[] lf, .slice (some ⟨b1, o1, none⟩) xs1.length c1, .pointer (some ⟨b1, o1, none⟩), (Value.int .i64 (hj')), .slice (some ⟨g, 0, none⟩) n cap, (Value.int .i64 ((k : Int))), .pointer (some ⟨g, k, none⟩), .slice (some ⟨b2, o2, none⟩) xs2.length c2, .pointer (some ⟨b2, o2, none⟩), (Value.int .i64 (hk')), .bool r, .bool r] (fun _ w => w = W.drewN (q + 1))
          { tmps := #[.func (.func gf) #[] lf, .slice (some ⟨g, 0, none⟩) n cap, (Value.int .i64 ((k : Int))), undef, undef, undef, u6, (Value.int .i64 ((j : Int))), .slice (some ⟨b1, o1, none⟩) xs1.length c1, .slice (some ⟨g, 0, none⟩) n cap, (Value.int .i64 ((n : Int))), (Value.int .i64 ((j : Int))), .bool true, (Value.int .i64 ((j : Int))), .pointer (some ⟨g, j, none⟩), .slice (some ⟨b1, o1, none⟩) xs1.length c1, (Value.int .i64 ((j : Int))), (Value.int .i64 ((k : Int))), .bool true, .bool true, .func (.func gf) #[] lf, .slice (some ⟨b1, o1, none⟩) xs1.length c1, .pointer (some ⟨b1, o1, none⟩), (Value.int .i64 (hj')), .slice (some ⟨g, 0, none⟩) n cap, (Value.int .i64 ((k : Int))), .pointer (some ⟨g, k, none⟩), .slice (some ⟨b2, o2, none⟩) xs2.length c2, .pointer (some ⟨b2, o2, none⟩), (Value.int .i64 (hk')), .bool r, .bool r, u32], defers := [] }
          (by kernel_rfl) (by kernel_rfl) (by simp only [putA, dstAt, Act.put, List.getElem?_toArray, List.getElem?_cons_zero, List.getElem?_cons_succ, Option.bind_some, List.setIfInBounds_toArray, List.set_cons_zero, List.set_cons_succ, List.getD_cons_zero, List.getD_cons_succ]) (by kernel_rfl) rfl ?zheads ?ztail
        case zheads =>
          refine ⟨?z0, ?z1, ?z2, ?z3, ?z4, ?z5, ?z6, ?z7, ?z8, ?z9, ?z10, ?z11, ?z12, ?z13, ?z14, ?z15, trivial⟩
          case z0 =>
            rintro l w hs hl rfl
            refine givesIn_value (by rfl) ?_ rfl
            go_simp
          case z1 =>
            rintro l w hs hl rfl
            refine givesIn_value (by rfl) ?_ rfl
            go_simp
          case z2 =>
            rintro l w hs hl rfl
            refine givesIn_value (by rfl) ?_ rfl
            go_simp
          case z3 =>
            rintro l w hs hl rfl
            refine givesIn_value (by rfl) ?_ rfl
            go_simp
          case z4 =>
            rintro l w hs hl rfl
            refine givesIn_value (by rfl) ?_ rfl
            go_simp
          case z5 =>
            rintro l w hs hl rfl
            refine givesIn_value (by rfl) ?_ rfl
            go_simp
          case z6 =>
            rintro l w hs hl rfl
            refine givesIn_value (by rfl) ?_ rfl
            go_simp
          case z7 =>
            rintro l w hs hl rfl
            refine givesIn_value (by rfl) ?_ rfl
            go_simp
          case z8 =>
            rintro l w hs hl rfl
            refine givesIn_value (by rfl) ?_ rfl
            go_simp
          case z9 =>
            rintro l w hs hl rfl
            refine givesIn_value (by rfl) ?_ rfl
            go_simp
          case z10 =>
            rintro l w hs hl rfl
            refine givesIn_value (by rfl) ?_ rfl
            go_simp
          case z11 =>
            rintro l w hs hl rfl
            refine givesIn_value (by rfl) ?_ rfl
            go_simp
          case z12 =>
            rintro l w hs hl rfl
            refine givesIn_value (by rfl) ?_ rfl
            go_simp
          case z13 =>
            rintro l w hs hl rfl
            refine givesIn_value (by rfl) ?_ rfl
            go_simp
          case z14 =>
            rintro l w hs hl rfl
            exact givesIn_call (.func (.func gf) #[] lf) [(Value.int .i64 (hj')), (Value.int .i64 (hk'))] (by rfl) rfl rfl ((hless hj' hk' _).mono (by rintro e w' ⟨rfl, rfl⟩; exact ⟨by rw [HRr.out], rfl⟩))
          case z15 =>
            rintro l w hs hl rfl
            refine givesIn_value (by rfl) ?_ rfl
            go_simp
        case ztail =>
          rintro w rfl
          dsimp only [List.drop]
          cases r with
          | true =>
            gi_wp2_with fail
            rw [← HR.out]
            refine ⟨true, rfl, fun _ => ⟨j, hjl, ?_⟩, (fun h => by cases h), q + 1, rfl⟩
            have hr' : key hj' < key hk' := of_decide_eq_true HRr.out
            rw [HK.out.1, HK.out.2]; exact hr'
          | false =>
            gi_wp2_with fail
            refine ⟨⟨j + 1, by omega, by simp, HE.out false HRr.out rfl, q + 1, rfl⟩, by simp [intOf]; omega⟩
    · have hjn : j = L.length := by have := HN.out; omega
      subst hjn
      have h1' := Lib.hid h1
      clear h h1
      gi_wp2_with fail
      rw [← HR.out]
      exact ⟨false, rfl, fun h => (by cases h), fun _ => h1'.out, q, rfl⟩
end Go.Proofs.Ytjlnfeableleeaa
