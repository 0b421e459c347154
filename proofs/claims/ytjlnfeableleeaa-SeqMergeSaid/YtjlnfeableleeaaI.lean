import Derived.Test.YtjlnfeableleeaaH
namespace Go.Proofs.Ytjlnfeableleeaa
open Go Go.RowKit Go.Shelf Go.Proofs
attribute [local go_sem] Oper.semAt_some
attribute [local go_sem] eql26n eql26f eql32f eql34f eql37f eql42n eql42f wide_fn wide_depth

/-- A function without results is left with marks among its deferred calls. -/
theorem leaves_marks {F : Fence} {n : Nat} {P : Program} {fn : Func} {R : Ending → World → Prop} {tmps : Array Value} (hres : fn.results = #[]) : ∀ (Ds : List Nat) (w : World), Ds.Nodup →
    (∀ D, D ∈ Ds → w.heap[D]? = some (.deferred (some []))) → (∀ w', Chg (fun b => b ∈ Ds) w w' → w'.heap.size = w.heap.size → R (.returned (.tuple #[])) w') → LeavesInM F n P fn tmps R (Ds.map markAt) .returning w
  | [], w, _, _, h => ⟨_, results_none hres _ _ _, h w (.refl _ _) rfl⟩
  | D :: Ds, w, hnd, hK, h => by
    have hD := hK D (by simp)
    obtain ⟨h1, h2⟩ := List.nodup_cons.1 hnd
    refine ⟨by simp, .inl ⟨D, w.putObj D (.deferred none), rfl, run_takeDeferred hD, leaves_marks hres Ds _ h2 ?_ ?_⟩⟩
    · intro D' hD'
      exact (World.putObj_heap_other (k := D') (r := D) (fun e => h1 (e ▸ hD'))).trans (hK D' (by simp [hD']))
    · intro w' hc hs
      exact h w' (((Chg.refl (fun b => b ∈ D :: Ds) w).putObj (l := D) (fun _ => by simp) _).trans hc (fun _ _ x => x) (fun b _ x => by simp [x])) (by rw [hs]; simp)

/-- The first k lists, one behind the other. -/
def flat (l : List (Value × List Int)) : List Int := (l.map Prod.snd).flatten
theorem flat_append (a b : List (Value × List Int)) : flat (a ++ b) = flat a ++ flat b := by simp only [flat, List.map_append, List.flatten_append]
theorem flat_one (x : Value × List Int) : flat [x] = x.2 := by simp [flat]
theorem flat_take {l : List (Value × List Int)} {k : Nat} (hk : k < l.length) : flat (l.take (k + 1)) = flat (l.take k) ++ l[k].2 := by
  rw [List.take_succ_eq_append_getElem hk, flat_append, flat_one]
theorem flat_split {l : List (Value × List Int)} {k : Nat} (hk : k < l.length) : flat l = flat (l.take k) ++ (l[k].2 ++ flat (l.drop (k + 1))) := by
  have h1 : l = l.take k ++ ([l[k]] ++ l.drop (k + 1)) := by
    have h2 : l.drop k = l[k] :: l.drop (k + 1) := List.drop_eq_getElem_cons hk
    rw [List.singleton_append, ← h2, List.take_append_drop]
  have := congrArg flat h1
  rwa [flat_append, flat_append, flat_one] at this
theorem flat_at {l : List (Value × List Int)} {k j : Nat} (hk : k < l.length) (hj : j < l[k].2.length) : ∃ h : (flat (l.take k)).length + j < (flat l).length, (flat l)[(flat (l.take k)).length + j] = l[k].2[j] := by
  have e := flat_split hk
  have h : (flat (l.take k)).length + j < (flat l).length := by rw [e]; simp; omega
  refine ⟨h, ?_⟩
  have : (flat l)[(flat (l.take k)).length + j]? = some l[k].2[j] := by
    rw [e, List.getElem?_append_right (by omega), List.getElem?_append_left (by omega)]
    simp [hj]
  rw [List.getElem?_eq_getElem h] at this
  exact Option.some.inj this

/-- The slice value s holds the values vs, in a block of B. -/
def Vals (W : World) (s : Value) (vs : List Value) (B : Nat → Prop) : Prop :=
  (s = .slice none 0 0 ∧ vs = []) ∨ ∃ b off cap, s = .slice (some ⟨b, off, none⟩) vs.length cap ∧ B b ∧ ∀ j, j < vs.length → W.cell? ⟨b, off + j, none⟩ = some (vs[j]?.getD undef)
theorem Vals.of {W W' : World} {s : Value} {vs : List Value} {B : Nat → Prop} (h : Vals W s vs B) (hb : ∀ b, B b → W'.heap[b]? = W.heap[b]?) : Vals W' s vs B := by
  rcases h with h | ⟨b, off, cap, h1, h2, h3⟩
  · exact .inl h
  · exact .inr ⟨b, off, cap, h1, h2, fun j hj => (World.cell?_of_block (w := W) (hb b h2)).trans (h3 j hj)⟩

/-- The loop of Chain's closure: at list k; the marks of the lists ahead of it. -/
def CInv (yv sl : Value) (c D n : Nat) (l : List (Value × List Int)) (J : Nat → (Nat → Prop) → World → Prop) (S : Nat → Prop) (w2 : World) (a : Act) (w : World) : Prop :=
  ∃ (k : Nat) (Ds : List Nat) (T : Nat → Prop) (u4 u5 u9 u10 u11 u12 u13 u14 u15 u16 u17 u18 u19 : Value),
    a = { tmps := #[yv, (Value.pointer (some ⟨c, 0, none⟩)), (Value.pointer (some ⟨D, 0, none⟩)), undef, u4, u5, sl, (Value.int .i64 ((n : Int))), (Value.int .i64 ((k : Int))), u9, u10, u11, u12, u13, u14, u15, u16, u17, u18, u19], defers := Ds.map markAt } ∧
    k ≤ n ∧ Plus (fun b => b = D) (J (flat (l.take k)).length) (fun W => Cell W D yv) T w ∧ InW T w ∧ Grows (fun b => S b ∨ b = D) T w2 ∧ Chg (fun b => S b ∨ b = D) w2 w ∧
    Ds.Nodup ∧ (∀ M, M ∈ Ds → w.heap[M]? = some (.deferred (some [])) ∧ w2.heap.size ≤ M ∧ ¬ T M)
def cMu (n : Nat) (a : Act) (_ : World) : Nat := n - (intOf (a.tmps.getD 8 undef)).toNat

set_option maxRecDepth 100000 in
set_option maxHeartbeats 1000000 in
/-- **Chain's closure.** -/
theorem chain_gives (c : Nat) (s : Value) (l : List (Value × List Int)) (hn : l.length ≤ 1000000) (M0 : Nat → Prop) (Q0 : World → Prop)
    (hQ0 : ∀ W W', Q0 W → InW M0 W → W.heap.size ≤ W'.heap.size → (∀ b, M0 b → W'.heap[b]? = W.heap[b]?) → Q0 W')
    (hs : ∀ p, p ∈ l → Gives Try.prog p.1 enc1 p.2 M0 (fun _ => False) (fun _ => Q0) ∨ (p.1 = .nilFunc ∧ p.2 = [])) (B : Nat → Prop) :
    Gives Try.prog (.func (.func 37) #[] #[(Value.pointer (some ⟨c, 0, none⟩))]) enc1 (flat l) (fun b => b = c ∨ B b ∨ M0 b) (fun _ => False) (fun _ W => Cell W c s ∧ Vals W s (l.map Prod.fst) B ∧ Q0 W) := by
  refine ⟨?_, ⟨37, _, rfl⟩, fun _ x => x.elim, ?_⟩
  · rintro k W W' ⟨h1, h2, h3⟩ hM hsz hb
    exact ⟨h1.of (hb _ (.inl rfl)), h2.of (fun b x => hb b (.inr (.inl x))), hQ0 W W' h3 (fun b x => hM b (.inr (.inr x))) hsz (fun b x => hb b (.inr (.inr x)))⟩
  rintro yf yb J Jx S W hJ hJx hS hM hSM ⟨⟨c1, g1⟩, hv, hq⟩ h0 hY
  refine .inl ⟨37, _, rfl, enters_of Try.func37 (by kernel_rfl) rfl, Calls.mono (R := GPost S (fun _ => False) J Jx (fun _ W => Cell W c s ∧ Vals W s (l.map Prod.fst) B ∧ Q0 W) (flat l).length W) ?_ (fun _ _ h => h)⟩
  obtain ⟨R, hR⟩ : ∃ R : Ending → World → Prop, GPost S (fun _ => False) J Jx (fun _ W => Cell W c s ∧ Vals W s (l.map Prod.fst) B ∧ Q0 W) (flat l).length W = R := ⟨_, rfl⟩
  rw [hR]
  have HR : Hid (GPost S (fun _ => False) J Jx (fun _ W => Cell W c s ∧ Vals W s (l.map Prod.fst) B ∧ Q0 W) (flat l).length W = R) := Lib.hid hR
  clear hR
  have hcl : c < W.heap.size := hM c (.inl rfl)
  have hvs : ∃ p cap, s = .slice p l.length cap := by
    rcases hv with ⟨h1, h2⟩ | ⟨b, off, cap, h1, _⟩
    · have : l = [] := by simpa using h2
      exact ⟨none, 0, by rw [h1, this]; rfl⟩
    · exact ⟨some ⟨b, off, none⟩, cap, by rw [h1, List.length_map]⟩
  obtain ⟨p, cap, rfl⟩ := hvs
  obtain ⟨n, hnl⟩ : ∃ n, l.length = n := ⟨_, rfl⟩
  rw [hnl] at hn c1
  have HN : Hid (l.length = n) := Lib.hid hnl
  have hv' : ∀ k (hk : k < l.length) wr, Chg (fun b => S b ∨ False) W wr → ∃ b off, p = some ⟨b, off, none⟩ ∧ wr.cell? ⟨b, off + k, none⟩ = some l[k].1 := fun k hk wr hc => by
    rcases hv with ⟨h1, h2⟩ | ⟨b, off, cap, h1, h2, h3⟩
    · have : l = [] := by simpa using h2
      subst this; simp at hk
    · injection h1 with h1 _ _
      refine ⟨b, off, h1, (hc.cell (p := ⟨b, off + k, none⟩) (hM b (.inr (.inl h2))) (by rintro (x | x); (· exact hSM b x (.inr (.inl h2))); exact x)).trans ?_⟩
      rw [h3 k (by simpa using hk)]
      simp [hk]
  clear hnl
  refine (callsIn_wide (n := 0)).1 ?_
  refine callsIn_of_wp_marks Try.func37 rfl trivial ?_ rfl
  simp only [Try.ntmps37, List.size_toArray, List.length_cons, List.length_nil, Nat.reduceAdd, Nat.reduceSub, Array.replicate_succ, Array.replicate_zero, List.push_toArray, List.append_toArray, List.nil_append, List.cons_append]
  gi_wp2_with fail
  obtain ⟨D, hD⟩ : ∃ D, W.heap.size = D := ⟨_, rfl⟩
  obtain ⟨w2, hw2⟩ : ∃ w2, W.alloc (.cells #[.func yf #[] yb] 34) = w2 := ⟨_, rfl⟩
  have hz2 : w2.heap.size = D + 1 := by rw [← hw2]; simp [hD]
  have hch2 : Chg (fun _ => False) W w2 := by rw [← hw2]; exact (Chg.refl _ W).alloc _
  have hcD : Cell w2 D (.func yf #[] yb) := by rw [← hw2, ← hD]; exact Cell.new W _ _
  rw [hw2, hD]
  rw [hD] at hcl
  have hold : ∀ b, b < D → w2.heap[b]? = W.heap[b]? := fun b hb => hch2.block b (by omega) (fun x => x)
  have hMD : ∀ b, (b = c ∨ B b ∨ M0 b) → b < D := fun b x => by rw [← hD]; exact hM b x
  have hSD : ∀ b, S b → b < D := fun b x => by rw [← hD]; exact hS b x
  clear hw2
  refine wpIn_loop (CInv (.func yf #[] yb) (.slice p n cap) c D n l J S w2) (cMu n) ?start ?round
  case start =>
    refine ⟨0, [], (fun b => S b ∨ b = D), _, _, _, _, _, _, _, _, _, _, _, _, _, rfl, Nat.zero_le _, ⟨S, fun _ => Iff.rfl, fun b x hs => by have := hSD b hs; omega, hJ 0 S W w2 h0 hS (by omega) (fun b x => hold b (hSD b x)), hcD⟩, ?_, .refl _ _, .refl _ _, List.nodup_nil, fun _ x => by cases x⟩
    rintro b (x | x)
    · have := hSD b x; omega
    · omega
  case round =>
    rintro a wr ⟨k, Ds, T, u4, u5, u9, u10, u11, u12, u13, u14, u15, u16, u17, u18, u19, rfl, hk, ⟨T0, hT, hnT, hj, hcy⟩, hin, hgr, hchg, hnd, hDs⟩
    have hcW : Chg (fun b => S b ∨ False) W wr := hch2.trans hchg (fun _ _ x => x.elim) (fun b hb x => by rcases x with x | x; (· exact .inl x); omega)
    by_cases hlt : k < n
    · have hkl : k < l.length := by rw [HN.out]; exact hlt
      obtain ⟨b, off, rfl, hcell⟩ := hv' k hkl wr hcW
      have hsk := hs l[k] (List.getElem_mem hkl)
      obtain ⟨sk, hske⟩ : ∃ sk, l[k].1 = sk := ⟨_, rfl⟩
      rw [hske] at hsk hcell
      have hgo : GivesO sk l[k].2 M0 (fun _ => False) (fun _ W => sk ≠ .nilFunc → Q0 W) := by
        rcases hsk with h | ⟨h1, h2⟩
        · have e : (fun (_ : Nat) W => sk ≠ .nilFunc → Q0 W) = fun _ => Q0 := by
            funext _ W
            obtain ⟨g, lb, e⟩ := h.2.1
            simp [e]
          rw [e]; exact .inl h
        · exact .inr ⟨h1, h2, by funext _ W; simp [h1], fun _ x => x.elim⟩
      have hfv := hgo.fv
      clear hsk hv' hs hske
      gi_wp2_with (gi_at_call 38; refine (callsIn_wide.2 (tame_any sk hfv _)).mono ?_; rintro e w1 ⟨rfl, rfl⟩)
      obtain ⟨o, ho⟩ : ∃ o, (flat (l.take k)).length = o := ⟨_, rfl⟩
      have ho1 : (flat (l.take (k + 1))).length = o + l[k].2.length := by rw [flat_take hkl, List.length_append, ho]
      rw [ho] at hj
      have HO : Hid ((flat (l.take k)).length = o) := Lib.hid ho
      have HO1 : Hid ((flat (l.take (k + 1))).length = o + l[k].2.length) := Lib.hid ho1
      clear ho ho1
      have hfa : ∀ j (hj : j < l[k].2.length), ∃ h : o + j < (flat l).length, (flat l)[o + j] = l[k].2[j] := fun j hj => by rw [← HO.out]; exact flat_at hkl hj
      obtain ⟨z, hz⟩ : ∃ z, wr.heap.size = z := ⟨_, rfl⟩
      obtain ⟨wk, hwk⟩ : ∃ wk, wr.alloc (.cells #[sk] 26) = wk := ⟨_, rfl⟩
      have hzk : wk.heap.size = z + 1 := by rw [← hwk]; simp [hz]
      have hck : Chg (fun _ => False) wr wk := by rw [← hwk]; exact (Chg.refl _ wr).alloc _
      have hct : Cell wk z sk := by rw [← hwk, ← hz]; exact Cell.new wr _ _
      rw [hwk, hz]
      have hzw := hcW.size
      have hzD : D + 1 ≤ z := by have := hchg.size; omega
      have holdk : ∀ b, b < z → wk.heap[b]? = wr.heap[b]? := fun b hb => hck.block b (by omega) (fun x => x)
      have hTz : ∀ b, T b → b < z := fun b x => by rw [← hz]; exact hin b x
      have hTM : ∀ b, T b → ¬ (b = c ∨ B b ∨ M0 b) := fun b x y => by
        rcases hgr b x with (h | h) | h
        · exact hSM b h y
        · have := hMD b y; omega
        · have := hMD b y; omega
      have hcWk : ∀ W1, Chg (fun b => T b ∨ False) wk W1 → Chg (fun b => S b ∨ False) W W1 := fun W1 hc => (hcW.trans hck (fun _ _ x => x) (fun _ _ x => x.elim)).trans hc (fun _ _ x => x) (fun b hb x => by
        rcases x with x | x
        · rcases hgr b x with (h | h) | h
          · exact .inl h
          · omega
          · omega
        · exact x.elim)
      clear hwk
      refine wpIn_rangeFunc_sep (sv := .func (.func 49) #[] #[(Value.pointer (some ⟨z, 0, none⟩))]) rfl (tame_gives z sk l[k].2 M0 (fun _ => False) _ hgo (fun x => by have := hMD _ (.inr (.inr x)); omega)) (fun _ => rfl)
        (fun j => Plus (fun b => b = D) (J (o + j)) (fun W => Cell W D (.func yf #[] yb)))
        (fun c j T W => c = .ret ∧ Plus (fun b => b = D) (Jx (o + j)) (fun _ => True) T W)
        (fun k => Plus.loc (hJ _) ?l1) (fun c k => ?l2) T ?hS ?hM ?hSM ?hQ ?h0
        (fun x => { tmps := #[.func yf #[] yb, (Value.pointer (some ⟨c, 0, none⟩)), (Value.pointer (some ⟨D, 0, none⟩)), undef, sk, (Value.int .i64 (x)), .slice (some ⟨b, off, none⟩) n cap, (Value.int .i64 ((n : Int))), (Value.int .i64 ((k : Int))), .bool true, .pointer (some ⟨b, off + k, none⟩), sk, sk, .func (.func 49) #[] #[(Value.pointer (some ⟨z, 0, none⟩))], (Value.int .i64 (x)), u15, u16, u17, u18, u19], defers := [] }) ?assign ?body ?done ?stop
      case l1 => exact fun A B a1 hin hsz hb => a1.of (hb _ rfl)
      case l2 =>
        rintro T A B ⟨rfl, h⟩ hin hsz hb
        exact ⟨rfl, Plus.loc (hJx _) (fun A B _ _ _ _ => trivial) T A B h hin hsz hb⟩
      case hS => intro b x; have := hTz b x; omega
      case hM =>
        rintro b (x | x)
        · omega
        · have := hMD b (.inr (.inr x)); omega
      case hSM =>
        rintro b x (y | y)
        · have := hTz b x; omega
        · exact hTM b x (.inr (.inr y))
      case hQ => exact ⟨hct, fun _ => hQ0 W wk hq (fun b x => hM b (.inr (.inr x))) (by omega) (fun b x => (holdk b (by have := hMD b (.inr (.inr x)); omega)).trans (hcW.block b (hM b (.inr (.inr x))) (by rintro (y | y); (· exact hSM b y (.inr (.inr x))); exact y)))⟩
      case h0 => exact ⟨T0, hT, hnT, hJ _ T0 wr wk hj (fun b x => hin b ((hT b).2 (.inl x))) (by omega) (fun b x => holdk b (hTz b ((hT b).2 (.inl x)))), hcy.of (holdk D (by omega))⟩
      case assign =>
        intro l x W K hK
        dsimp only [enc1]
        gi_wp2
        exact hK
      case body =>
        rintro lp j hj T1 W1 hin1 hchg1 ⟨S1, hT1, hn1, hj1, hd1⟩
        obtain ⟨hfl, hfe⟩ := hfa j hj
        have hy := hY (o + j) hfl S1 W1 (fun b x => hin1 b ((hT1 b).2 (.inl x))) (hcWk W1 hchg1) hj1
        rw [hfe] at hy
        have hpost : ∀ S2 W3, Grows S1 S2 W1 → InW S2 W3 → Chg S1 W1 W3 →
            Grows T1 (fun b => S2 b ∨ b = D) W1 ∧ InW (fun b => S2 b ∨ b = D) W3 ∧ Chg T1 W1 W3 ∧ (∀ b, b = D → ¬ S2 b) ∧ Cell W3 D (.func yf #[] yb) := fun S2 W3 p1 p2 p3 => by
          obtain ⟨s1, s2, s3, s4, s5⟩ := Plus.step hT1 hn1 hin1 p1 p2 p3
          exact ⟨s1, s2, s3, s4, hd1.of (s5 _ rfl)⟩
        obtain ⟨d1, e1⟩ := hd1
        clear hY hfa hfe hj1 hchg1 hcWk hTM
        gi_wp2_with ((with_reducible refine wpListIn_callV ?_ ?_ (.func yf #[] yb) [(Value.int .i64 (l[k].2[j]))] ?_ ?_ ?_); rfl; rfl; rfl; rfl; refine hy.mono ?_; clear hy; rintro e W3 ⟨S2, p1, p2, p3, (⟨rfl, p4⟩ | ⟨rfl, p4⟩)⟩ <;> refine ⟨_, rfl, ?_⟩)
        · obtain ⟨q1, q2, q3, q4, q5⟩ := hpost S2 W3 p1 p2 p3
          exact ⟨_, q1, q2, q3, S2, fun _ => Iff.rfl, q4, p4, q5⟩
        · obtain ⟨q1, q2, q3, q4, q5⟩ := hpost S2 W3 p1 p2 p3
          exact ⟨_, q1, q2, q3, rfl, S2, fun _ => Iff.rfl, q4, p4, trivial⟩
      case done =>
        rintro T' W' hg' hi' hc' hI' ⟨d4, d5⟩ hK hnD'
        have hmarks : ∀ M, M ∈ wk.heap.size :: Ds → W'.heap[M]? = some (.deferred (some [])) ∧ w2.heap.size ≤ M ∧ ¬ T' M := by
          intro M hMm
          rcases List.mem_cons.1 hMm with rfl | hMm
          · exact ⟨hK, by omega, hnD'⟩
          · obtain ⟨m1, m2, m3⟩ := hDs M hMm
            have hlt' : M < z := by rw [← hz]; exact (Array.getElem?_eq_some_iff.1 m1).1
            refine ⟨((hc'.block M (by omega) (by rintro (x | x); (· exact m3 x); exact x)).trans (holdk M hlt')).trans m1, m2, fun x => ?_⟩
            rcases hg' M x with y | y
            · exact m3 y
            · omega
        have hnd' : (wk.heap.size :: Ds).Nodup := List.nodup_cons.2 ⟨fun x => by
          have h1 := (Array.getElem?_eq_some_iff.1 (hDs _ x).1).1
          omega, hnd⟩
        have hnext : ∀ v4 v5 v9 v10 v11 v12 v13 v14 v15 v16 v17 v18 v19, CInv (.func yf #[] yb) (.slice (some ⟨b, off, none⟩) n cap) c D n l J S w2
            { tmps := #[.func yf #[] yb, (Value.pointer (some ⟨c, 0, none⟩)), (Value.pointer (some ⟨D, 0, none⟩)), undef, v4, v5, .slice (some ⟨b, off, none⟩) n cap, (Value.int .i64 ((n : Int))), (Value.int .i64 ((k : Int) + 1)), v9, v10, v11, v12, v13, v14, v15, v16, v17, v18, v19], defers := markAt wk.heap.size :: Ds.map markAt } W' := by
          intro v4 v5 v9 v10 v11 v12 v13 v14 v15 v16 v17 v18 v19
          refine ⟨k + 1, wk.heap.size :: Ds, T', v4, v5, v9, v10, v11, v12, v13, v14, v15, v16, v17, v18, v19, by simp, by omega, by rw [HO1.out]; exact hI', hi', hgr.trans (fun b x => (hg' b x).imp (fun y => y) (fun y => by omega)) (by have := hchg.size; omega), ?_, hnd', hmarks⟩
          exact (hchg.trans hck (T := fun b => S b ∨ b = D) (fun _ _ x => x) (fun _ _ x => x.elim)).trans hc' (fun _ _ x => x) (fun b' hb x => by
            rcases x with x | x
            · exact (hgr b' x).resolve_right (by omega)
            · exact x.elim)
        clear hmarks hnd' hY hfa hTM hcWk hgo
        gi_wp2_with fail
        exact ⟨hnext _ _ _ _ _ _ _ _ _ _ _ _ _, by simp [cMu, intOf]; omega⟩
      case stop =>
        rintro cc j T' W' hj0 hj' hg' hi' hc' ⟨rfl, S0, hT', hn', hjx, _⟩ ⟨d4, d5⟩ hK hnD'
        have hmarks : ∀ M, M ∈ (z + 1) :: Ds → W'.heap[M]? = some (.deferred (some [])) ∧ w2.heap.size ≤ M ∧ ¬ T' M := by
          intro M hMm
          rcases List.mem_cons.1 hMm with rfl | hMm
          · rw [hzk] at hK hnD'
            exact ⟨hK, by omega, hnD'⟩
          · obtain ⟨m1, m2, m3⟩ := hDs M hMm
            have hlt' : M < z := by rw [← hz]; exact (Array.getElem?_eq_some_iff.1 m1).1
            refine ⟨((hc'.block M (by omega) (by rintro (x | x); (· exact m3 x); exact x)).trans (holdk M hlt')).trans m1, m2, fun x => ?_⟩
            rcases hg' M x with y | y
            · exact m3 y
            · omega
        have hnd' : ((z + 1) :: Ds).Nodup := List.nodup_cons.2 ⟨fun x => by
          have h1 := (Array.getElem?_eq_some_iff.1 (hDs _ x).1).1
          omega, hnd⟩
        have hcW' := hcWk W' hc'
        have hle : o + j ≤ (flat l).length := by rw [flat_split hkl]; simp only [List.length_append]; rw [HO.out]; omega
        clear hY hfa hgo
        gi_wp2_with fail
        show LeavesInM Fence.wide 0 Try.prog Try.f37 _ R (((z + 1) :: Ds).map markAt) .returning W'
        refine leaves_marks (fn := Try.f37) rfl _ W' hnd' (fun M hM => (hmarks M hM).1) ?_
        intro w' hc hs'
        rw [← HR.out]
        have hzw' := hcW'.size
        have hin0 : InW S0 W' := fun b x => hi' b ((hT' b).2 (.inl x))
        have hb0 : ∀ b, b < D → w'.heap[b]? = W'.heap[b]? := fun b hb => hc.block b (by omega) (fun x => by have := (hmarks b x).2.1; omega)
        have hbW : ∀ b, (b = c ∨ B b ∨ M0 b) → w'.heap[b]? = W.heap[b]? := fun b x => (hb0 b (hMD b x)).trans (hcW'.block b (hM b x) (by rintro (y | y); (· exact hSM b y x); exact y))
        refine ⟨_, S0, rfl, ?_, fun b x => by rw [hs']; exact hin0 b x, hcW'.trans hc (fun _ _ x => x) (fun b hb x => by have := (hmarks b x).2.1; omega), .inr ⟨o + j, by omega, hle, hJx _ S0 W' w' hjx hin0 (by omega) (fun b x => hc.block b (hin0 b x) (fun y => (hmarks b y).2.2 ((hT' b).2 (.inl x)))), Cell.of ⟨by rw [HN.out]; exact c1, g1⟩ (hbW c (.inl rfl)), hv.of (fun b x => hbW b (.inr (.inl x))), hQ0 W w' hq (fun b x => hM b (.inr (.inr x))) (by omega) (fun b x => hbW b (.inr (.inr x)))⟩⟩
        exact Plus.back (w1 := w2) (by omega) (fun b x => by
          rcases hg' b x with y | y
          · exact hgr b y
          · exact .inr (by have := hchg.size; omega)) hT' hn'
    · obtain rfl : k = n := by omega
      clear hv' hs
      gi_wp2_with fail
      show LeavesInM Fence.wide 0 Try.prog Try.f37 _ R (Ds.map markAt) .returning wr
      refine leaves_marks (fn := Try.f37) rfl Ds wr hnd (fun M hM => (hDs M hM).1) ?_
      intro w' hc hs'
      rw [← HR.out]
      have hzw := hcW.size
      have hin0 : InW T0 wr := fun b x => hin b ((hT b).2 (.inl x))
      have hb0 : ∀ b, b < D → w'.heap[b]? = wr.heap[b]? := fun b hb => hc.block b (by omega) (fun x => by have := (hDs b x).2.1; omega)
      have hbW : ∀ b, (b = c ∨ B b ∨ M0 b) → w'.heap[b]? = W.heap[b]? := fun b x => (hb0 b (hMD b x)).trans (hcW.block b (hM b x) (by rintro (y | y); (· exact hSM b y x); exact y))
      have hfull : l.take k = l := by rw [← HN.out, List.take_length]
      rw [hfull] at hj
      refine ⟨_, T0, rfl, ?_, fun b x => by rw [hs']; exact hin0 b x, hcW.trans hc (fun _ _ x => x) (fun b hb x => by have := (hDs b x).2.1; omega), .inl ⟨hJ _ T0 wr w' hj hin0 (by omega) (fun b x => hc.block b (hin0 b x) (fun y => (hDs b y).2.2 ((hT b).2 (.inl x)))), Cell.of ⟨by rw [HN.out]; exact c1, g1⟩ (hbW c (.inl rfl)), hv.of (fun b x => hbW b (.inr (.inl x))), hQ0 W w' hq (fun b x => hM b (.inr (.inr x))) (by omega) (fun b x => hbW b (.inr (.inr x)))⟩⟩
      exact Plus.back (by omega) hgr hT hnT
end Go.Proofs.Ytjlnfeableleeaa
