import Derived.Test.YtjlnfeableleeaaB
namespace Go.Proofs.Ytjlnfeableleeaa
open Go Go.RowKit Go.Shelf Go.Proofs
attribute [local go_sem] Oper.semAt_some
attribute [local go_sem] eql26n eql26f eql32f eql34f eql37f eql42n eql42f wide_fn wide_depth

/-- How many of the first k are kept. -/
def cnt (p : Int → Bool) (xs : List Int) (k : Nat) : Nat := ((xs.take k).filter p).length
theorem cnt_all (p : Int → Bool) (xs : List Int) : cnt p xs xs.length = (xs.filter p).length := by simp [cnt]
theorem cnt_no {p : Int → Bool} {xs : List Int} {k : Nat} (hk : k < xs.length) (h : p xs[k] = false) : cnt p xs (k + 1) = cnt p xs k := by
  unfold cnt
  rw [List.take_succ_eq_append_getElem hk, List.filter_append]
  simp [h]
theorem cnt_yes {p : Int → Bool} {xs : List Int} {k : Nat} (hk : k < xs.length) (h : p xs[k] = true) : cnt p xs (k + 1) = cnt p xs k + 1 := by
  unfold cnt
  rw [List.take_succ_eq_append_getElem hk, List.filter_append]
  simp [h]
theorem cnt_le (p : Int → Bool) (xs : List Int) (k : Nat) : cnt p xs k ≤ (xs.filter p).length := by
  unfold cnt
  have : xs.filter p = (xs.take k).filter p ++ (xs.drop k).filter p := by rw [← List.filter_append, List.take_append_drop]
  rw [this]; simp
theorem cnt_at {p : Int → Bool} {xs : List Int} {k : Nat} (hk : k < xs.length) (h : p xs[k] = true) : ∃ hc : cnt p xs k < (xs.filter p).length, (xs.filter p)[cnt p xs k] = xs[k] := by
  have e : xs.filter p = (xs.take k).filter p ++ (xs[k] :: (xs.drop (k + 1)).filter p) := by
    have h1 : xs = xs.take k ++ xs.drop k := (List.take_append_drop k xs).symm
    have h2 : xs.drop k = xs[k] :: xs.drop (k + 1) := List.drop_eq_getElem_cons hk
    conv => lhs; rw [h1, h2]
    rw [List.filter_append, List.filter_cons, if_pos h]
  have hc : cnt p xs k < (xs.filter p).length := by rw [e]; simp [cnt]
  refine ⟨hc, ?_⟩
  have : (xs.filter p)[cnt p xs k]? = some xs[k] := by
    rw [e]; unfold cnt; simp
  rw [List.getElem?_eq_getElem hc] at this
  exact Option.some.inj this

set_option maxHeartbeats 1000000 in
/-- **Keep's closure.** -/
theorem keep_gives (cf cs : Nat) (sv : Value) (gf : Nat) (lf : Array Value) (xs : List Int) (p : Int → Bool) (Ms Mms : Nat → Prop) (Qs : World → Prop) (hs : GivesO sv xs Ms Mms (fun _ => Qs))
    (hf : ∀ x w, CallsV Try.prog (.func (.func gf) #[] lf) (enc1 x) w fun e w' => e = .returned (.bool (p x)) ∧ w' = w)
    (hcs : ¬ Ms cs) (hcf : ¬ Ms cf) :
    Gives Try.prog (.func (.func 41) #[] #[(Value.pointer (some ⟨cf, 0, none⟩)), (Value.pointer (some ⟨cs, 0, none⟩))]) enc1 (xs.filter p) (fun b => b = cf ∨ b = cs ∨ Ms b) Mms
      (fun _ W => Cell W cf (.func (.func gf) #[] lf) ∧ Cell W cs sv ∧ Qs W) := by
  have hsub := hs.sub
  refine ⟨?_, ⟨41, _, rfl⟩, fun b x => .inr (.inr (hsub b x)), ?_⟩
  · rintro k W W' ⟨h1, h2, h3⟩ hM hsz hb
    exact ⟨h1.of (hb _ (.inl rfl)), h2.of (hb _ (.inr (.inl rfl))), hs.loc 0 W W' h3 (fun b x => hM b (.inr (.inr x))) hsz (fun b x => hb b (.inr (.inr x)))⟩
  rintro yf yb J Jx S W hJ hJx hS hM hSM ⟨⟨c1, g1⟩, ⟨c2, g2⟩, hq⟩ h0 hY
  refine .inl ⟨41, _, rfl, enters_of Try.func41 (by kernel_rfl) rfl, Calls.mono (R := GPost S Mms J Jx (fun _ W => Cell W cf (.func (.func gf) #[] lf) ∧ Cell W cs sv ∧ Qs W) (xs.filter p).length W) ?_ (fun _ _ h => h)⟩
  have hcfl : cf < W.heap.size := hM cf (.inl rfl)
  have hcsl : cs < W.heap.size := hM cs (.inr (.inl rfl))
  have hfv := hs.fv
  refine (callsIn_wide (n := 0)).1 ?_
  refine callsIn_of_wp_marks Try.func41 rfl trivial ?_ rfl
  simp only [Try.ntmps41, List.size_toArray, List.length_cons, List.length_nil, Nat.reduceAdd, Nat.reduceSub, Array.replicate_succ, Array.replicate_zero, List.push_toArray, List.append_toArray, List.nil_append, List.cons_append]
  gi_wp2_with (gi_at_call 38; refine (callsIn_wide.2 (tame_any sv hfv _)).mono ?_; rintro e w1 ⟨rfl, rfl⟩)
  obtain ⟨D, hD⟩ : ∃ D, W.heap.size = D := ⟨_, rfl⟩
  obtain ⟨w2, hw2⟩ : ∃ w2, (W.alloc (.cells #[.func yf #[] yb] 34)).alloc (.cells #[sv] 26) = w2 := ⟨_, rfl⟩
  have hz2 : w2.heap.size = D + 2 := by rw [← hw2]; simp [hD]
  have hch2 : Chg (fun _ => False) W w2 := by rw [← hw2]; exact ((Chg.refl _ W).alloc _).alloc _
  have hcD : Cell w2 D (.func yf #[] yb) := by rw [← hw2, ← hD]; exact (Cell.new W _ _).alloc _
  have hcT : Cell w2 (D + 1) sv := by rw [← hw2, ← hD]; exact Cell.new2 W _ _ _
  rw [hw2, hD]
  rw [hD] at hcfl hcsl
  have hold : ∀ b, b < D → w2.heap[b]? = W.heap[b]? := fun b hb => hch2.block b (by omega) (fun x => x)
  have hMD : ∀ b, (b = cf ∨ b = cs ∨ Ms b) → b < D := fun b x => by rw [← hD]; exact hM b x
  have hSD : ∀ b, S b → b < D := fun b x => by rw [← hD]; exact hS b x
  have hro : ∀ W1, Chg (fun b => (S b ∨ b = D) ∨ Mms b) w2 W1 → Cell W1 cf (.func (.func gf) #[] lf) ∧ Cell W1 cs sv ∧ Chg (fun b => S b ∨ Mms b) W W1 := fun W1 hc => by
    refine ⟨Cell.of ⟨c1, g1⟩ ((hc.block cf (by omega) ?_).trans (hold cf hcfl)), Cell.of ⟨c2, g2⟩ ((hc.block cs (by omega) ?_).trans (hold cs hcsl)), hch2.trans hc (fun _ _ x => x.elim) (fun b hb x => ?_)⟩
    · rintro ((x | x) | x)
      · exact hSM cf x (.inl rfl)
      · omega
      · exact hcf (hsub cf x)
    · rintro ((x | x) | x)
      · exact hSM cs x (.inr (.inl rfl))
      · omega
      · exact hcs (hsub cs x)
    · rcases x with (x | x) | x
      · exact .inl x
      · omega
      · exact .inr x
  clear hw2
  refine wpIn_rangeFunc_sep (sv := .func (.func 49) #[] #[(Value.pointer (some ⟨D + 1, 0, none⟩))]) rfl (tame_gives (D + 1) sv xs Ms Mms (fun _ => Qs) hs (fun x => by have := hMD _ (.inr (.inr x)); omega)) (fun _ => rfl)
    (fun k => Plus (fun b => b = D) (J (cnt p xs k)) (fun W => Cell W D (.func yf #[] yb)))
    (fun c k T W => c = .ret ∧ 0 < cnt p xs k ∧ Plus (fun b => b = D) (Jx (cnt p xs k)) (fun _ => True) T W)
    (fun k => Plus.loc (hJ _) ?l1) (fun c k => ?l2) (fun b => S b ∨ b = D) ?hS ?hM ?hSM ?hQ ?h0
    (fun x => { tmps := #[.func yf #[] yb, (Value.pointer (some ⟨cf, 0, none⟩)), (Value.pointer (some ⟨cs, 0, none⟩)), (Value.pointer (some ⟨D, 0, none⟩)), (Value.int .i64 (x)), .func (.func gf) #[] lf, .bool false, sv, .func (.func 49) #[] #[(Value.pointer (some ⟨D + 1, 0, none⟩))], (Value.int .i64 (x)), undef, undef, undef, undef, undef, undef, undef, undef, undef], defers := [] }) ?assign ?body ?done ?stop
  case l1 => exact fun A B a1 hin hsz hb => a1.of (hb _ rfl)
  case l2 =>
    rintro T A B ⟨rfl, h1, h⟩ hin hsz hb
    exact ⟨rfl, h1, Plus.loc (hJx _) (fun A B _ _ _ _ => trivial) T A B h hin hsz hb⟩
  case hS =>
    rintro b (x | x)
    · have := hSD b x; omega
    · omega
  case hM =>
    rintro b (x | x)
    · omega
    · have := hMD b (.inr (.inr x)); omega
  case hSM =>
    rintro b (x | x) (y | y)
    · have := hSD b x; omega
    · exact hSM b x (.inr (.inr y))
    · omega
    · have := hMD b (.inr (.inr y)); omega
  case hQ => exact ⟨hcT, hs.loc 0 W w2 hq (fun b x => hM b (.inr (.inr x))) (by omega) (fun b x => hold b (hMD b (.inr (.inr x))))⟩
  case h0 => exact ⟨S, fun _ => Iff.rfl, fun b x hs => by have := hSD b hs; omega, hJ _ S W w2 (by simpa [cnt] using h0) hS (by omega) (fun b x => hold b (hSD b x)), hcD⟩
  case assign =>
    intro l x W K hK
    dsimp only [enc1]
    gi_wp2
    exact hK
  case body =>
    rintro l k hk T W1 hin hchg ⟨T0, hT, hn, hj, hd1⟩
    obtain ⟨hd2, hd3, hcW⟩ := hro W1 hchg
    have hsz := hchg.size
    obtain ⟨d1, e1⟩ := hd1
    obtain ⟨d2, e2⟩ := hd2
    have hfx := hf xs[k] W1
    have hin0 : InW T0 W1 := fun b x => hin b ((hT b).2 (.inl x))
    cases hp : p xs[k] with
    | false =>
      rw [hp] at hfx
      have hcn := cnt_no hk hp
      gi_wp2_with ((with_reducible refine wpListIn_callV ?_ ?_ (.func (.func gf) #[] lf) [(Value.int .i64 (xs[k]))] ?_ ?_ ?_); rfl; rfl; rfl; rfl; refine hfx.mono ?_; clear hfx; rintro e W3 ⟨rfl, rfl⟩; refine ⟨_, rfl, ?_⟩)
      exact ⟨T, .refl _ _, hin, .refl _ _, T0, hT, hn, by rw [hcn]; exact hj, d1, e1⟩
    | true =>
      rw [hp] at hfx
      have hcn := cnt_yes hk hp
      obtain ⟨hcl, hce⟩ := cnt_at hk hp
      have hy := hY _ hcl T0 W1 hin0 hcW hj
      rw [hce] at hy
      have hpost : ∀ S2 W3, Grows T0 S2 W1 → InW S2 W3 → Chg T0 W1 W3 →
          Grows T (fun b => S2 b ∨ b = D) W1 ∧ InW (fun b => S2 b ∨ b = D) W3 ∧ Chg T W1 W3 ∧ (∀ b, b = D → ¬ S2 b) ∧ Cell W3 D (.func yf #[] yb) := fun S2 W3 p1 p2 p3 => by
        obtain ⟨s1, s2, s3, s4, s5⟩ := Plus.step hT hn hin p1 p2 p3
        exact ⟨s1, s2, s3, s4, Cell.of ⟨d1, e1⟩ (s5 _ rfl)⟩
      clear hY hf hj hce
      gi_wp2_with (first
        | ((with_reducible refine wpListIn_callV ?_ ?_ (.func (.func gf) #[] lf) [(Value.int .i64 (xs[k]))] ?_ ?_ ?_); rfl; rfl; rfl; rfl; refine hfx.mono ?_; clear hfx; rintro e W3 ⟨rfl, rfl⟩; refine ⟨_, rfl, ?_⟩)
        | ((with_reducible refine wpListIn_callV ?_ ?_ (.func yf #[] yb) [(Value.int .i64 (xs[k]))] ?_ ?_ ?_); rfl; rfl; rfl; rfl; refine hy.mono ?_; clear hy; rintro e W3 ⟨S2, p1, p2, p3, (⟨rfl, p4⟩ | ⟨rfl, p4⟩)⟩ <;> refine ⟨_, rfl, ?_⟩))
      · obtain ⟨q1, q2, q3, q4, q5⟩ := hpost S2 W3 p1 p2 p3
        exact ⟨_, q1, q2, q3, S2, fun _ => Iff.rfl, q4, by rw [hcn]; exact p4, q5⟩
      · obtain ⟨q1, q2, q3, q4, q5⟩ := hpost S2 W3 p1 p2 p3
        exact ⟨_, q1, q2, q3, rfl, by rw [hcn]; omega, S2, fun _ => Iff.rfl, q4, by rw [hcn]; exact p4, trivial⟩
  case done =>
    rintro S' W' hg hi hc ⟨S0, hT, hn, hj, d1⟩ ⟨d4, d5⟩ hK hnD'
    obtain ⟨r1, r2, _⟩ := hro W' hc
    have fin : ∀ W'', Chg (fun b => b = w2.heap.size) W' W'' → W''.heap.size = W'.heap.size → GPost S Mms J Jx (fun _ W => Cell W cf (.func (.func gf) #[] lf) ∧ Cell W cs sv ∧ Qs W) (xs.filter p).length W (.returned (.tuple #[])) W'' := fun W'' hch hsz => by
      obtain ⟨t1, t2, t3, t4, t5, t6, t7⟩ := sep_fin (Mm := Mms) hch2 hg hi hc hT hn hnD' (fun b hb x => by omega) (fun b x => x) hch hsz
      rw [hD] at t7
      refine ⟨_, S0, rfl, t1, t2, t3, .inl ⟨by rw [cnt_all] at hj; exact hJ _ S0 W' W'' hj t5 (by omega) t6, r1.of (t7 _ hcfl), r2.of (t7 _ hcsl), hs.loc 0 W' W'' d5 (fun b x => by have := hMD b (.inr (.inr x)); have := hc.size; omega) (by omega) (fun b x => t7 b (hMD b (.inr (.inr x))))⟩⟩
    gi_wp2_with fail
    rw [← hz2]
    exact (post_mark (fn := Try.f41) rfl hK fin).1
  case stop =>
    rintro c k S' W' hk0 hk hg hi hc ⟨rfl, hc0, S0, hT, hn, hj, _⟩ ⟨d4, d5⟩ hK hnD'
    obtain ⟨r1, r2, _⟩ := hro W' hc
    have fin : ∀ W'', Chg (fun b => b = w2.heap.size) W' W'' → W''.heap.size = W'.heap.size → GPost S Mms J Jx (fun _ W => Cell W cf (.func (.func gf) #[] lf) ∧ Cell W cs sv ∧ Qs W) (xs.filter p).length W (.returned (.tuple #[])) W'' := fun W'' hch hsz => by
      obtain ⟨t1, t2, t3, t4, t5, t6, t7⟩ := sep_fin (Mm := Mms) hch2 hg hi hc hT hn hnD' (fun b hb x => by omega) (fun b x => x) hch hsz
      rw [hD] at t7
      refine ⟨_, S0, rfl, t1, t2, t3, .inr ⟨_, hc0, cnt_le p xs k, hJx _ S0 W' W'' hj t5 (by omega) t6, r1.of (t7 _ hcfl), r2.of (t7 _ hcsl), hs.loc 0 W' W'' d5 (fun b x => by have := hMD b (.inr (.inr x)); have := hc.size; omega) (by omega) (fun b x => t7 b (hMD b (.inr (.inr x))))⟩⟩
    gi_wp2_with fail
    rw [← hz2]
    exact (post_mark (fn := Try.f41) rfl hK fin).2
end Go.Proofs.Ytjlnfeableleeaa
