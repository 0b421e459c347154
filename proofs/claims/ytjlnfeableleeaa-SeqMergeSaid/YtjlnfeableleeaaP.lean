import Derived.Test.YtjlnfeableleeaaO
import Derived.Deep.RegionLaw
namespace Go.Proofs.Ytjlnfeableleeaa
open Go Go.RowKit Go.Shelf Go.Proofs
attribute [local go_sem] eql26n eql26f eql32f eql34f eql37f eql42n eql42f wide_fn wide_depth

/-- append onto a row of one's own, as one step of a region that draws. -/
theorem step_append_own {P : Program} {ops : Array Oper} {o : Oper} {a : Act} {w : World} {K : Act → World → Prop} {Q : Exit → Act → World → Prop} {E : Prop}
    (hg : o.guard = none) (s x : Operand) (t : TypeId) (hop : o.op = Op.call { callee := Callee.builtin Builtin.append, args := #[s, x], argTypes := #[t, t] })
    (base : Nat) (e : TypeId) (i : TypeInfo) (z : Value) (size bytes : Nat) (ht : P.underlying t = some (.slice e)) (hi : P.info? e = some i) (hz : i.zero = some z)
    (hsize : i.size = size) (hby : i.bytes = bytes) (hzs : z.cells.size = size) (hsz : 0 < size)
    (v : Value) (n : Nat) (xs : List Value) (hs : a.eval s = v) (hown : w.ownsRow base e size v n xs)
    (ad : Addr) (m c : Nat) (news : List Value) (hx : a.eval x = .slice (some ad) m c) (hl : news.length = m * size) (hnews : ∀ j u, news[j]? = some u → w.cell? (ad.add j) = some u) (h1 : ∀ u ∈ news, u.oneCell' = true)
    (h63 : n + m ≤ maxLen) (hbytes : (n + m) * bytes ≤ 140737488355328) (hbase : base ≤ w.heap.size)
    (h : ∀ v' w', w'.ownsRow base e size v' (n + m) (xs ++ news) → w.grownBy w' v.ownBlock → (v'.ownBlock = v.ownBlock ∨ v'.ownBlock = some w.heap.size) → K (a.put o.dst v') w') :
    if Region.wanted o (yielded ops a.tmps) = true then Oper.wp P o a w K Q else E := by
  have hw : Region.wanted o (yielded ops a.tmps) = true := by simp [Region.wanted, hg]
  rw [if_pos hw]
  obtain ⟨v', w', hrun, r1, r2, _, r4⟩ := run_append_own_at (P := P) w base t o.type e i z size bytes ht hi hz hsize hby hzs hsz v n xs hown ad m c news hl hnews h1 h63 hbytes hbase
  unfold Oper.wp
  simp [execOp, hop, resolve, invoke, builtin, hs, hx, hrun, Result.andThen]
  exact h v' w' r1 r2 r4

/-- A call of a function, as one step of a region that draws. -/
theorem step_call {P : Program} {ops : Array Oper} {a : Act} {w : World} {K : Act → World → Prop} {Q : Exit → Act → World → Prop} {E : Prop} {dst : Option Tmp} {f : FuncId} {xl : List Operand} {tys : Array TypeId} {ty : TypeId} {pos : String} {after : Array Edge}
    (he : ∀ a w, (callFunc f a).run P w = .ok (.enter f a) w) (al : List Value) (hx' : xl.map a.eval = al) (h : Calls P f al.toArray w fun e w' => ∃ v, e = .returned v ∧ K (a.put dst v) w') :
    if Region.wanted { dst := dst, op := .call { callee := .value (.func f), args := xl.toArray, argTypes := tys }, type := ty, pos := pos, after := after, guard := none } (yielded ops a.tmps) = true then
      Oper.wp P { dst := dst, op := .call { callee := .value (.func f), args := xl.toArray, argTypes := tys }, type := ty, pos := pos, after := after, guard := none } a w K Q else E := by
  have hw : Region.wanted { dst := dst, op := .call { callee := .value (.func f), args := xl.toArray, argTypes := tys }, type := ty, pos := pos, after := after, guard := none } (yielded ops a.tmps) = true := rfl
  rw [if_pos hw]
  have hx : xl.toArray.map a.eval = al.toArray := by rw [← hx']; simp
  have : (execOp a.eval { dst := dst, op := .call { callee := .value (.func f), args := xl.toArray, argTypes := tys }, type := ty, pos := pos, after := after, guard := none }).run P w = .ok (.enter f al.toArray) w := by
    simp only [execOp, resolve, hx]
    simp [Act.eval, Deferred.ofValue, invoke, he, go_sem]
  unfold Oper.wp
  rw [this]
  refine Calls.mono h ?_
  rintro e w' ⟨v, rfl, hk⟩
  exact hk

set_option maxHeartbeats 400000 in
theorem c44 : Lss (.func (.func 44) #[] #[]) (fun _ => 0) := by
  intro a b w
  refine fn_of 44 (enters_of Try.func44 (by kernel_rfl) rfl) _ _ _ ?_
  show Calls Try.prog 44 #[(Value.int .i64 (a)), (Value.int .i64 (b))] w _
  go_enter Try.func44, Try.ntmps44
  go_wp2
  go_ret
  exact ⟨rfl, rfl⟩

/-- What Merge has gathered: the lists that are not empty, each in a block of its own. -/
structure Gath (base ob : Nat) (I : List (List Int)) (v : Value) (L : List Rest) (w : World) : Prop where
  xs : L.map Rest.xs = I.filter (fun l => !l.isEmpty)
  row : w.ownsRow base 22 1 v L.length (L.map Rest.v)
  good : ∀ p, p ∈ L → Good w (fun b => base ≤ b) p ∧ p.b < w.heap.size ∧ v.ownBlock ≠ some p.b ∧ p.b ≠ ob
  ne : v.ownBlock ≠ some ob

set_option maxRecDepth 100000 in
set_option maxHeartbeats 1000000 in
/-- **Merge.** -/
theorem sq_merge (l0 : Value) (gf : Nat) (lf : Array Value) (key : Int → Int) (hless : Lss (.func (.func gf) #[] lf) key) (hl0 : l0 = .func (.func gf) #[] lf ∨ (l0 = .nilFunc ∧ gf = 44 ∧ lf = #[]))
    (s : Value) (I : List (Value × List Int)) (hI : I.length ≤ 1000000) (hlen : ∀ p, p ∈ I → p.2.length ≤ 1000000) (B : Nat → Prop) (W : World) (hv : Vals W s (I.map Prod.fst) B) (hB : ∀ b, B b → b < W.heap.size)
    (hi : ∀ p, p ∈ I → ∃ Bi : Nat → Prop, Ints W p.1 p.2 Bi ∧ ∀ b, Bi b → b < W.heap.size) (xs : List Int) (hmg : Mg key ((I.map Prod.snd).filter (fun l => !l.isEmpty)) xs) :
    Calls Try.prog 23 #[l0, s] W (Makes xs W) := by
  obtain ⟨i0, hi0, hz0, hz1, hz2⟩ := info_parts info22
  have hs : ∃ p c, s = .slice p I.length c := by
    rcases hv with ⟨rfl, h2⟩ | ⟨b, off, cap, h1, _⟩
    · have : I = [] := by simpa using h2
      exact ⟨none, 0, by rw [this]; rfl⟩
    · exact ⟨some ⟨b, off, none⟩, cap, by rw [h1, List.length_map]⟩
  obtain ⟨sp, sc, rfl⟩ := hs
  obtain ⟨n, hn⟩ : ∃ n, I.length = n := ⟨_, rfl⟩
  have hv' : ∀ k (hk : k < I.length), ∃ b off, sp = some ⟨b, off, none⟩ ∧ b < W.heap.size ∧ W.cell? ⟨b, off + k, none⟩ = some I[k].1 := fun k hk => by
    rcases hv with ⟨h1, h2⟩ | ⟨b, off, cap, h1, h2, h3⟩
    · have : I = [] := by simpa using h2
      subst this; simp at hk
    · injection h1 with h1 _ _
      refine ⟨b, off, h1, hB b h2, ?_⟩
      rw [h3 k (by simpa using hk)]
      simp [hk]
  rw [hn] at hI ⊢
  have HN : Hid (I.length = n) := Lib.hid hn
  clear hv hn
  rcases hl0 with rfl | ⟨rfl, rfl, rfl⟩
  · go_enter Try.func23, Try.ntmps23
    go_wp2
    obtain ⟨w2, hw2⟩ : ∃ w2, (W.alloc (.cells #[.func (.func gf) #[] lf] 42)).alloc (.cells #[.slice none 0 0] 40) = w2 := ⟨_, rfl⟩
    have hb2 : Below W.heap.size W w2 := by rw [← hw2]; exact below_alloc2 W _ _
    have hzw2 : w2.heap.size = W.heap.size + 2 := by rw [← hw2]; simp
    have hcl : Cell w2 W.heap.size (.func (.func gf) #[] lf) := by rw [← hw2]; exact (Cell.new W _ _).alloc _
    have hco : Cell w2 (W.heap.size + 1) (.slice none 0 0) := by rw [← hw2]; exact Cell.new2 W _ _ _
    rw [hw2]
    clear hw2
    obtain ⟨D, hD⟩ : ∃ D, W.heap.size = D := ⟨_, rfl⟩
    rw [hD] at hb2 hzw2 hcl hco
    have HD := Lib.hid hD
    rw [hD]
    go_loopw [12] (fun i wr => ∃ k : Nat, k ≤ n ∧ i = .int .i64 (k : Int) ∧ Below D W wr ∧ D + 2 ≤ wr.heap.size ∧ Cell wr D (.func (.func gf) #[] lf) ∧ ∃ v L, Cell wr (D + 1) v ∧ Gath (D + 2) (D + 1) ((I.map Prod.snd).take k) v L wr ∧ v.ownBlock ≠ some D ∧ (∀ p, p ∈ L → p.b ≠ D)) (fun i _ => n - (intOf i).toNat)
    case atStart =>
      refine ⟨0, Nat.zero_le _, rfl, hb2, by omega, hcl, .slice none 0 0, [], hco, ⟨rfl, World.ownsRow_nil _ _ _ _, (fun p hp => by cases hp), by simp [Value.ownBlock]⟩, by simp [Value.ownBlock], (fun p hp => by cases hp)⟩
    case round =>
      obtain ⟨k, hk, rfl, hbr, hzr, hcr, v, L, hcv, hG, hvD, hLD⟩ := hrel
      by_cases hlt : k < n
      · have hkl : k < I.length := by rw [HN.out]; exact hlt
        obtain ⟨b, off, rfl, hbW, hcell⟩ := hv' k hkl
        rw [HD.out] at hbW
        have hcell' : wr.cell? ⟨b, off + k, none⟩ = some I[k].1 := (hbr.cell (p := ⟨b, off + k, none⟩) hbW).trans hcell
        obtain ⟨Bi, hint, hBi⟩ := hi _ (List.getElem_mem hkl)
        have hxl := hlen _ (List.getElem_mem hkl)
        have htk : (I.map Prod.snd).take (k + 1) = (I.map Prod.snd).take k ++ [I[k].2] := by rw [List.take_succ_eq_append_getElem (by simpa using hkl)]; simp
        obtain ⟨⟨ev, ex⟩, hex⟩ : ∃ p, I[k] = p := ⟨_, rfl⟩
        rw [hex] at hcell' hint hxl htk
        dsimp only at hcell' hint hxl htk
        have hint' : Ints wr ev ex Bi := hint.of (fun b x => hbr.block b (by have := hBi b x; rw [HD.out] at this; exact this))
        have HTK := Lib.hid htk
        have hev : ∃ pp ee, ev = .slice pp ex.length ee := by
          rcases hint with ⟨rfl, rfl⟩ | ⟨_, _, _, rfl, _⟩
          · exact ⟨_, _, rfl⟩
          · exact ⟨_, _, rfl⟩
        obtain ⟨pp, ee, rfl⟩ := hev
        clear hv' hi hcell hint htk hex hlen
        have hfin : 0 < ex.length → ∀ w1 p1 k1 c1, Row w1 wr.heap.size (.slice p1 k1 c1) ex → Below wr.heap.size wr w1 → (w1.cell? ⟨D + 1, 0, none⟩ = some v ∧ w1.ownsRow (D + 2) 22 1 v L.length (L.map Rest.v) ∧ D + 1 < w1.heap.size) ∧ ∀ v' w2, w2.ownsRow (D + 2) 22 1 v' (L.length + 1) (L.map Rest.v ++ [.slice p1 k1 c1]) → (w1.alloc (.cells #[.slice p1 k1 c1] 22)).grownBy w2 v.ownBlock → (v'.ownBlock = v.ownBlock ∨ v'.ownBlock = some (w1.alloc (.cells #[.slice p1 k1 c1] 22)).heap.size) →
            (w2.cell? ⟨D + 1, 0, none⟩ = some v ∧ w2.frozen? ⟨D + 1, 0, none⟩ = false) ∧ Below D W (w2.setCell ⟨D + 1, 0, none⟩ v') ∧ D + 2 ≤ (w2.setCell ⟨D + 1, 0, none⟩ v').heap.size ∧ Cell (w2.setCell ⟨D + 1, 0, none⟩ v') D (.func (.func gf) #[] lf) ∧ ∃ L', Cell (w2.setCell ⟨D + 1, 0, none⟩ v') (D + 1) v' ∧ Gath (D + 2) (D + 1) ((I.map Prod.snd).take (k + 1)) v' L' (w2.setCell ⟨D + 1, 0, none⟩ v') ∧ v'.ownBlock ≠ some D ∧ (∀ p, p ∈ L' → p.b ≠ D) := fun h0 w1 p1 k1 c1 hr1 hb1 => by
          have hvl := hG.row.lt
          have hrow1 : w1.ownsRow (D + 2) 22 1 v L.length (L.map Rest.v) := by
            refine ⟨hG.row.1, ?_⟩
            rcases hG.row.2 with h | ⟨g, cap, cur, e1, e2, e3, e4⟩
            · exact .inl h
            · exact .inr ⟨g, cap, cur, e1, e2, by rw [hb1.block g (Array.getElem?_eq_some_iff.1 e3).1]; exact e3, e4⟩
          have hsz1 := hb1.size
          have hcv1 : Cell w1 (D + 1) v := hcv.of (hb1.block _ hcv.lt)
          refine ⟨⟨hcv1.1, hrow1, by omega⟩, fun v' w2 ho hg hat => ?_⟩
          have hsz2 := hg.size
          rw [World.size_alloc] at hsz2
          have hold : ∀ b, b < wr.heap.size → v.ownBlock ≠ some b → w2.heap[b]? = wr.heap[b]? := fun b hb hn => ((hg.block b (by simp; omega) (fun e => hn e.symm)).trans (Below.heap_alloc _ _ _ (by omega))).trans (hb1.block b hb)
          have hc2 : Cell w2 (D + 1) v := hcv.of (hold _ hcv.lt hG.ne)
          have hvne : ∀ b, b < wr.heap.size → v.ownBlock ≠ some b → v'.ownBlock ≠ some b := fun b hb hn => by
            rcases hat with h | h
            · rw [h]; exact hn
            · rw [h]; simp; omega
          have hz3 : (w2.setCell ⟨D + 1, 0, none⟩ v').heap.size = w2.heap.size := by simp [World.setCell]
          have hset : ∀ b, b ≠ D + 1 → (w2.setCell ⟨D + 1, 0, none⟩ v').heap[b]? = w2.heap[b]? := fun b hb => Below.heap_setCell _ _ _ _ hb
          -- the new list
          have hform : ∃ g1 cap1, (Value.slice p1 k1 c1) = .slice (some ⟨g1, 0, none⟩) ex.length cap1 ∧ wr.heap.size ≤ g1 ∧ g1 < w1.heap.size ∧ ex.length ≤ cap1 := by
            have hl := hr1.lt
            rcases hr1.2 with ⟨_, h⟩ | ⟨g1, cap1, cur, e1, e2, e3, e4, _⟩
            · omega
            · exact ⟨g1, cap1, e1, e2, (Array.getElem?_eq_some_iff.1 e3).1, e4⟩
          obtain ⟨g1, cap1, ev1, hg1, hg1l, hcap1⟩ := hform
          have hints1 := hr1.ints
          have hg1v : v.ownBlock ≠ some g1 := fun e => by have := (hvl g1 e).2; omega
          have hg1b : w2.heap[g1]? = w1.heap[g1]? := (hg.block g1 (by simp; omega) (fun e => hg1v e.symm)).trans (Below.heap_alloc _ _ _ hg1l)
          refine ⟨⟨hc2.1, hc2.2⟩, ?_, by omega, hcr.of ((hset D (by omega)).trans (hold D (by omega) hvD)), L ++ [⟨g1, 0, cap1, ex⟩], hc2.set _, ⟨?_, ?_, ?_, hvne _ hcv.lt hG.ne⟩, hvne D (by omega) hvD, ?_⟩
          · have hsz := hbr.size
            refine ⟨by show w2.os = W.os; rw [hg.os]; exact hb1.os.trans hbr.os, by show w2.tape = W.tape; rw [hg.tape]; exact hb1.tape.trans hbr.tape, by show w2.output = W.output; rw [hg.output]; exact hb1.output.trans hbr.output, by omega, fun b hb => ?_⟩
            exact ((hset b (by omega)).trans (hold b (by omega) (fun e => by have := (hvl b e).1; omega))).trans (hbr.block b hb)
          · rw [HTK.out, List.map_append, List.filter_append, hG.xs]
            have : (!ex.isEmpty) = true := by cases ex with | nil => simp at h0 | cons _ _ => rfl
            simp [this]
          · have e : (L ++ [(⟨g1, 0, cap1, ex⟩ : Rest)]).map Rest.v = L.map Rest.v ++ [.slice p1 k1 c1] := by rw [List.map_append, ev1]; rfl
            rw [e, List.length_append]
            refine ⟨ho.1, ?_⟩
            rcases ho.2 with h | ⟨g, cap, cur, e1, e2, e3, e4⟩
            · exact .inl h
            · exact .inr ⟨g, cap, cur, e1, e2, by rw [hset g (by omega)]; exact e3, e4⟩
          · intro p hp
            rcases List.mem_append.1 hp with hp | hp
            · obtain ⟨a1, a2, a3, a4⟩ := hG.good p hp
              exact ⟨a1.of ((hset _ a4).trans (hold _ a2 a3)), by omega, hvne _ a2 a3, a4⟩
            · obtain rfl : p = ⟨g1, 0, cap1, ex⟩ := by simpa using hp
              refine ⟨⟨by show D + 2 ≤ g1; omega, h0, hxl, hcap1, fun i hi => ?_⟩, by show g1 < _; omega, ?_, by show g1 ≠ _; omega⟩
              · rcases hints1 with ⟨h, _⟩ | ⟨bb, oo, cc, h, h2, h3⟩
                · rw [ev1] at h; cases h
                · rw [ev1] at h
                  injection h with h _ _
                  have hbb : (⟨g1, 0, none⟩ : Addr) = ⟨bb, oo, none⟩ := Option.some.inj h
                  injection hbb with hbb hoo _
                  subst hbb; subst hoo
                  show (w2.setCell ⟨D + 1, 0, none⟩ v').cell? ⟨g1, 0 + i, none⟩ = _
                  rw [World.cell?_of_block (w := w1) (a := ⟨g1, 0 + i, none⟩) ((hset g1 (by omega)).trans hg1b)]
                  exact h3 i hi
              · show v'.ownBlock ≠ some g1
                rcases hat with h | h
                · rw [h]; exact hg1v
                · rw [h]; simp; omega
          · intro p hp
            rcases List.mem_append.1 hp with hp | hp
            · exact hLD p hp
            · obtain rfl : p = ⟨g1, 0, cap1, ex⟩ := by simpa using hp
              show g1 ≠ D
              omega
        have HFIN := Lib.hid hfin
        have hLn : L.length ≤ k := by
          have := congrArg List.length hG.xs
          rw [List.length_map] at this
          rw [this]
          exact Nat.le_trans (List.length_filter_le _ _) (by simp; omega)
        clear hfin
        by_cases h0 : 0 < ex.length
        · have hclone := clone_any (.slice pp ex.length ee) ex Bi hxl wr.drew (hint'.of (fun _ _ => rfl))
          have HCL := Lib.hid hclone
          have HG := Lib.hid hG
          obtain ⟨cv1, fv1⟩ := hcv
          have hzr' : D + 1 < wr.heap.size := by omega
          clear hclone hint' hG hcr
          go_wp2_with fail
          go_region_law (first
            | (refine step_call (enters_of Try.func34 (by kernel_rfl) rfl) [.slice pp ex.length ee] (by simp [Act.eval, Act.put]) (HCL.out.mono ?_); rintro e w1 ⟨p1, k1, c1, rfl, hr1, hb1⟩; refine ⟨_, rfl, ?_⟩; obtain ⟨⟨x1, hrow1, x3⟩, x4⟩ := HFIN.out h0 w1 p1 k1 c1 hr1 ⟨hb1.os, hb1.tape, hb1.output, hb1.size, hb1.block⟩; have X4 := Lib.hid x4; clear x4)
            | (refine step_append_own rfl (.tmp 19) (.tmp 22) 40 rfl (D + 2) 22 i0 (.slice none 0 0) 1 24 Try.underlying40 hi0 hz0 hz1 hz2 rfl (by decide) v L.length _ (by simp [Act.eval]) (hrow1.alloc _) ⟨w1.heap.size, 0, none⟩ 1 1 [.slice p1 k1 c1] (by simp [Act.eval]) rfl (cell_one_new _ _ _) (by simp [Value.oneCell']) (by unfold maxLen; omega) (by omega) (by simp; omega) ?_; intro v' w2 ho hg hat; obtain ⟨⟨y1, y2⟩, y3⟩ := X4.out v' w2 ho hg hat; have Y3 := Lib.hid y3; clear y3; obtain ⟨p2, k2, c2, rfl⟩ := row_slice ho))
          all_goals try go_wp2_with fail
          all_goals exact ⟨⟨k + 1, by omega, by simp, Y3.out.1, Y3.out.2.1, Y3.out.2.2.1, _, Y3.out.2.2.2.choose, Y3.out.2.2.2.choose_spec⟩, by simp [intOf]; omega⟩
        · go_wp2_with fail
          have hex0 : ex = [] := List.length_eq_zero_iff.1 (by omega)
          refine ⟨⟨k + 1, by omega, by simp, hbr, hzr, hcr, v, L, hcv, ⟨?_, hG.row, hG.good, hG.ne⟩, hvD, hLD⟩, by simp [intOf]; omega⟩
          rw [HTK.out, List.filter_append, hG.xs, hex0]
          simp
      · go_wp2_with fail
        have hkn : k = n := by omega
        have htk : (I.map Prod.snd).take k = I.map Prod.snd := List.take_of_length_le (by rw [List.length_map, HN.out]; omega)
        have hx := hG.xs
        rw [htk] at hx
        have hLn : L.length ≤ 1000000 := by
          have := congrArg List.length hx
          rw [List.length_map] at this
          rw [this]
          exact Nat.le_trans (List.length_filter_le _ _) (by rw [List.length_map, HN.out]; exact hI)
        have hv := row_vals (by simpa using hG.row : wr.ownsRow (D + 2) 22 1 v (L.map Rest.v).length (L.map Rest.v))
        have he : (L.map Rest.t).map enc3 = L.map Rest.v := by rw [List.map_map]; rfl
        have hg := merge_gives (D + 1) D v gf lf key hless L hLn xs (hx ▸ hmg) (fun b => D + 2 ≤ b ∧ b < wr.heap.size) (fun b => v.ownBlock = some b)
        have hvl := hG.row.lt
        refine bodyPost_ret (results_tmp rfl _ _ _) rfl ⟨45, _, rfl, ⟨_, _, .inl hg, ?_, hcv, hcr, by rw [he]; exact hv, fun p hp => ?_⟩, ?_⟩
        · rintro b (h | h | h | h)
          · omega
          · omega
          · exact (hvl b h).2
          · exact h.2
        · obtain ⟨a1, a2, _, _⟩ := hG.good p hp
          exact ⟨⟨a1.b, a2⟩, a1.pos, a1.le, a1.cap, a1.ints⟩
        · exact HD.out ▸ hbr
  · have hst : (store ⟨W.heap.size, 0, none⟩ (.func (.func 44) #[] #[])).run Try.prog (W.alloc (.cells #[.nilFunc] 42)) = .ok () ((W.alloc (.cells #[.nilFunc] 42)).setCell ⟨W.heap.size, 0, none⟩ (.func (.func 44) #[] #[])) := by
      rw [run_store _ _ _ _ _ rfl]; simp
    go_enter Try.func23, Try.ntmps23
    go_wp2
    obtain ⟨w2, hw2⟩ : ∃ w2, (W.alloc (.cells #[.func (.func 44) #[] #[]] 42)).alloc (.cells #[.slice none 0 0] 40) = w2 := ⟨_, rfl⟩
    have hb2 : Below W.heap.size W w2 := by rw [← hw2]; exact below_alloc2 W _ _
    have hzw2 : w2.heap.size = W.heap.size + 2 := by rw [← hw2]; simp
    have hcl : Cell w2 W.heap.size (.func (.func 44) #[] #[]) := by rw [← hw2]; exact (Cell.new W _ _).alloc _
    have hco : Cell w2 (W.heap.size + 1) (.slice none 0 0) := by rw [← hw2]; exact Cell.new2 W _ _ _
    rw [hw2]
    clear hw2
    obtain ⟨D, hD⟩ : ∃ D, W.heap.size = D := ⟨_, rfl⟩
    rw [hD] at hb2 hzw2 hcl hco
    have HD := Lib.hid hD
    rw [hD]
    go_loopw [12] (fun i wr => ∃ k : Nat, k ≤ n ∧ i = .int .i64 (k : Int) ∧ Below D W wr ∧ D + 2 ≤ wr.heap.size ∧ Cell wr D (.func (.func 44) #[] #[]) ∧ ∃ v L, Cell wr (D + 1) v ∧ Gath (D + 2) (D + 1) ((I.map Prod.snd).take k) v L wr ∧ v.ownBlock ≠ some D ∧ (∀ p, p ∈ L → p.b ≠ D)) (fun i _ => n - (intOf i).toNat)
    case atStart =>
      refine ⟨0, Nat.zero_le _, rfl, hb2, by omega, hcl, .slice none 0 0, [], hco, ⟨rfl, World.ownsRow_nil _ _ _ _, (fun p hp => by cases hp), by simp [Value.ownBlock]⟩, by simp [Value.ownBlock], (fun p hp => by cases hp)⟩
    case round =>
      obtain ⟨k, hk, rfl, hbr, hzr, hcr, v, L, hcv, hG, hvD, hLD⟩ := hrel
      by_cases hlt : k < n
      · have hkl : k < I.length := by rw [HN.out]; exact hlt
        obtain ⟨b, off, rfl, hbW, hcell⟩ := hv' k hkl
        rw [HD.out] at hbW
        have hcell' : wr.cell? ⟨b, off + k, none⟩ = some I[k].1 := (hbr.cell (p := ⟨b, off + k, none⟩) hbW).trans hcell
        obtain ⟨Bi, hint, hBi⟩ := hi _ (List.getElem_mem hkl)
        have hxl := hlen _ (List.getElem_mem hkl)
        have htk : (I.map Prod.snd).take (k + 1) = (I.map Prod.snd).take k ++ [I[k].2] := by rw [List.take_succ_eq_append_getElem (by simpa using hkl)]; simp
        obtain ⟨⟨ev, ex⟩, hex⟩ : ∃ p, I[k] = p := ⟨_, rfl⟩
        rw [hex] at hcell' hint hxl htk
        dsimp only at hcell' hint hxl htk
        have hint' : Ints wr ev ex Bi := hint.of (fun b x => hbr.block b (by have := hBi b x; rw [HD.out] at this; exact this))
        have HTK := Lib.hid htk
        have hev : ∃ pp ee, ev = .slice pp ex.length ee := by
          rcases hint with ⟨rfl, rfl⟩ | ⟨_, _, _, rfl, _⟩
          · exact ⟨_, _, rfl⟩
          · exact ⟨_, _, rfl⟩
        obtain ⟨pp, ee, rfl⟩ := hev
        clear hv' hi hcell hint htk hex hlen
        have hfin : 0 < ex.length → ∀ w1 p1 k1 c1, Row w1 wr.heap.size (.slice p1 k1 c1) ex → Below wr.heap.size wr w1 → (w1.cell? ⟨D + 1, 0, none⟩ = some v ∧ w1.ownsRow (D + 2) 22 1 v L.length (L.map Rest.v) ∧ D + 1 < w1.heap.size) ∧ ∀ v' w2, w2.ownsRow (D + 2) 22 1 v' (L.length + 1) (L.map Rest.v ++ [.slice p1 k1 c1]) → (w1.alloc (.cells #[.slice p1 k1 c1] 22)).grownBy w2 v.ownBlock → (v'.ownBlock = v.ownBlock ∨ v'.ownBlock = some (w1.alloc (.cells #[.slice p1 k1 c1] 22)).heap.size) →
            (w2.cell? ⟨D + 1, 0, none⟩ = some v ∧ w2.frozen? ⟨D + 1, 0, none⟩ = false) ∧ Below D W (w2.setCell ⟨D + 1, 0, none⟩ v') ∧ D + 2 ≤ (w2.setCell ⟨D + 1, 0, none⟩ v').heap.size ∧ Cell (w2.setCell ⟨D + 1, 0, none⟩ v') D (.func (.func 44) #[] #[]) ∧ ∃ L', Cell (w2.setCell ⟨D + 1, 0, none⟩ v') (D + 1) v' ∧ Gath (D + 2) (D + 1) ((I.map Prod.snd).take (k + 1)) v' L' (w2.setCell ⟨D + 1, 0, none⟩ v') ∧ v'.ownBlock ≠ some D ∧ (∀ p, p ∈ L' → p.b ≠ D) := fun h0 w1 p1 k1 c1 hr1 hb1 => by
          have hvl := hG.row.lt
          have hrow1 : w1.ownsRow (D + 2) 22 1 v L.length (L.map Rest.v) := by
            refine ⟨hG.row.1, ?_⟩
            rcases hG.row.2 with h | ⟨g, cap, cur, e1, e2, e3, e4⟩
            · exact .inl h
            · exact .inr ⟨g, cap, cur, e1, e2, by rw [hb1.block g (Array.getElem?_eq_some_iff.1 e3).1]; exact e3, e4⟩
          have hsz1 := hb1.size
          have hcv1 : Cell w1 (D + 1) v := hcv.of (hb1.block _ hcv.lt)
          refine ⟨⟨hcv1.1, hrow1, by omega⟩, fun v' w2 ho hg hat => ?_⟩
          have hsz2 := hg.size
          rw [World.size_alloc] at hsz2
          have hold : ∀ b, b < wr.heap.size → v.ownBlock ≠ some b → w2.heap[b]? = wr.heap[b]? := fun b hb hn => ((hg.block b (by simp; omega) (fun e => hn e.symm)).trans (Below.heap_alloc _ _ _ (by omega))).trans (hb1.block b hb)
          have hc2 : Cell w2 (D + 1) v := hcv.of (hold _ hcv.lt hG.ne)
          have hvne : ∀ b, b < wr.heap.size → v.ownBlock ≠ some b → v'.ownBlock ≠ some b := fun b hb hn => by
            rcases hat with h | h
            · rw [h]; exact hn
            · rw [h]; simp; omega
          have hz3 : (w2.setCell ⟨D + 1, 0, none⟩ v').heap.size = w2.heap.size := by simp [World.setCell]
          have hset : ∀ b, b ≠ D + 1 → (w2.setCell ⟨D + 1, 0, none⟩ v').heap[b]? = w2.heap[b]? := fun b hb => Below.heap_setCell _ _ _ _ hb
          -- the new list
          have hform : ∃ g1 cap1, (Value.slice p1 k1 c1) = .slice (some ⟨g1, 0, none⟩) ex.length cap1 ∧ wr.heap.size ≤ g1 ∧ g1 < w1.heap.size ∧ ex.length ≤ cap1 := by
            have hl := hr1.lt
            rcases hr1.2 with ⟨_, h⟩ | ⟨g1, cap1, cur, e1, e2, e3, e4, _⟩
            · omega
            · exact ⟨g1, cap1, e1, e2, (Array.getElem?_eq_some_iff.1 e3).1, e4⟩
          obtain ⟨g1, cap1, ev1, hg1, hg1l, hcap1⟩ := hform
          have hints1 := hr1.ints
          have hg1v : v.ownBlock ≠ some g1 := fun e => by have := (hvl g1 e).2; omega
          have hg1b : w2.heap[g1]? = w1.heap[g1]? := (hg.block g1 (by simp; omega) (fun e => hg1v e.symm)).trans (Below.heap_alloc _ _ _ hg1l)
          refine ⟨⟨hc2.1, hc2.2⟩, ?_, by omega, hcr.of ((hset D (by omega)).trans (hold D (by omega) hvD)), L ++ [⟨g1, 0, cap1, ex⟩], hc2.set _, ⟨?_, ?_, ?_, hvne _ hcv.lt hG.ne⟩, hvne D (by omega) hvD, ?_⟩
          · have hsz := hbr.size
            refine ⟨by show w2.os = W.os; rw [hg.os]; exact hb1.os.trans hbr.os, by show w2.tape = W.tape; rw [hg.tape]; exact hb1.tape.trans hbr.tape, by show w2.output = W.output; rw [hg.output]; exact hb1.output.trans hbr.output, by omega, fun b hb => ?_⟩
            exact ((hset b (by omega)).trans (hold b (by omega) (fun e => by have := (hvl b e).1; omega))).trans (hbr.block b hb)
          · rw [HTK.out, List.map_append, List.filter_append, hG.xs]
            have : (!ex.isEmpty) = true := by cases ex with | nil => simp at h0 | cons _ _ => rfl
            simp [this]
          · have e : (L ++ [(⟨g1, 0, cap1, ex⟩ : Rest)]).map Rest.v = L.map Rest.v ++ [.slice p1 k1 c1] := by rw [List.map_append, ev1]; rfl
            rw [e, List.length_append]
            refine ⟨ho.1, ?_⟩
            rcases ho.2 with h | ⟨g, cap, cur, e1, e2, e3, e4⟩
            · exact .inl h
            · exact .inr ⟨g, cap, cur, e1, e2, by rw [hset g (by omega)]; exact e3, e4⟩
          · intro p hp
            rcases List.mem_append.1 hp with hp | hp
            · obtain ⟨a1, a2, a3, a4⟩ := hG.good p hp
              exact ⟨a1.of ((hset _ a4).trans (hold _ a2 a3)), by omega, hvne _ a2 a3, a4⟩
            · obtain rfl : p = ⟨g1, 0, cap1, ex⟩ := by simpa using hp
              refine ⟨⟨by show D + 2 ≤ g1; omega, h0, hxl, hcap1, fun i hi => ?_⟩, by show g1 < _; omega, ?_, by show g1 ≠ _; omega⟩
              · rcases hints1 with ⟨h, _⟩ | ⟨bb, oo, cc, h, h2, h3⟩
                · rw [ev1] at h; cases h
                · rw [ev1] at h
                  injection h with h _ _
                  have hbb : (⟨g1, 0, none⟩ : Addr) = ⟨bb, oo, none⟩ := Option.some.inj h
                  injection hbb with hbb hoo _
                  subst hbb; subst hoo
                  show (w2.setCell ⟨D + 1, 0, none⟩ v').cell? ⟨g1, 0 + i, none⟩ = _
                  rw [World.cell?_of_block (w := w1) (a := ⟨g1, 0 + i, none⟩) ((hset g1 (by omega)).trans hg1b)]
                  exact h3 i hi
              · show v'.ownBlock ≠ some g1
                rcases hat with h | h
                · rw [h]; exact hg1v
                · rw [h]; simp; omega
          · intro p hp
            rcases List.mem_append.1 hp with hp | hp
            · exact hLD p hp
            · obtain rfl : p = ⟨g1, 0, cap1, ex⟩ := by simpa using hp
              show g1 ≠ D
              omega
        have HFIN := Lib.hid hfin
        have hLn : L.length ≤ k := by
          have := congrArg List.length hG.xs
          rw [List.length_map] at this
          rw [this]
          exact Nat.le_trans (List.length_filter_le _ _) (by simp; omega)
        clear hfin
        by_cases h0 : 0 < ex.length
        · have hclone := clone_any (.slice pp ex.length ee) ex Bi hxl wr.drew (hint'.of (fun _ _ => rfl))
          have HCL := Lib.hid hclone
          have HG := Lib.hid hG
          obtain ⟨cv1, fv1⟩ := hcv
          have hzr' : D + 1 < wr.heap.size := by omega
          clear hclone hint' hG hcr
          go_wp2_with fail
          go_region_law (first
            | (refine step_call (enters_of Try.func34 (by kernel_rfl) rfl) [.slice pp ex.length ee] (by simp [Act.eval, Act.put]) (HCL.out.mono ?_); rintro e w1 ⟨p1, k1, c1, rfl, hr1, hb1⟩; refine ⟨_, rfl, ?_⟩; obtain ⟨⟨x1, hrow1, x3⟩, x4⟩ := HFIN.out h0 w1 p1 k1 c1 hr1 ⟨hb1.os, hb1.tape, hb1.output, hb1.size, hb1.block⟩; have X4 := Lib.hid x4; clear x4)
            | (refine step_append_own rfl (.tmp 19) (.tmp 22) 40 rfl (D + 2) 22 i0 (.slice none 0 0) 1 24 Try.underlying40 hi0 hz0 hz1 hz2 rfl (by decide) v L.length _ (by simp [Act.eval]) (hrow1.alloc _) ⟨w1.heap.size, 0, none⟩ 1 1 [.slice p1 k1 c1] (by simp [Act.eval]) rfl (cell_one_new _ _ _) (by simp [Value.oneCell']) (by unfold maxLen; omega) (by omega) (by simp; omega) ?_; intro v' w2 ho hg hat; obtain ⟨⟨y1, y2⟩, y3⟩ := X4.out v' w2 ho hg hat; have Y3 := Lib.hid y3; clear y3; obtain ⟨p2, k2, c2, rfl⟩ := row_slice ho))
          all_goals try go_wp2_with fail
          all_goals exact ⟨⟨k + 1, by omega, by simp, Y3.out.1, Y3.out.2.1, Y3.out.2.2.1, _, Y3.out.2.2.2.choose, Y3.out.2.2.2.choose_spec⟩, by simp [intOf]; omega⟩
        · go_wp2_with fail
          have hex0 : ex = [] := List.length_eq_zero_iff.1 (by omega)
          refine ⟨⟨k + 1, by omega, by simp, hbr, hzr, hcr, v, L, hcv, ⟨?_, hG.row, hG.good, hG.ne⟩, hvD, hLD⟩, by simp [intOf]; omega⟩
          rw [HTK.out, List.filter_append, hG.xs, hex0]
          simp
      · go_wp2_with fail
        have hkn : k = n := by omega
        have htk : (I.map Prod.snd).take k = I.map Prod.snd := List.take_of_length_le (by rw [List.length_map, HN.out]; omega)
        have hx := hG.xs
        rw [htk] at hx
        have hLn : L.length ≤ 1000000 := by
          have := congrArg List.length hx
          rw [List.length_map] at this
          rw [this]
          exact Nat.le_trans (List.length_filter_le _ _) (by rw [List.length_map, HN.out]; exact hI)
        have hv := row_vals (by simpa using hG.row : wr.ownsRow (D + 2) 22 1 v (L.map Rest.v).length (L.map Rest.v))
        have he : (L.map Rest.t).map enc3 = L.map Rest.v := by rw [List.map_map]; rfl
        have hg := merge_gives (D + 1) D v 44 #[] key hless L hLn xs (hx ▸ hmg) (fun b => D + 2 ≤ b ∧ b < wr.heap.size) (fun b => v.ownBlock = some b)
        have hvl := hG.row.lt
        refine bodyPost_ret (results_tmp rfl _ _ _) rfl ⟨45, _, rfl, ⟨_, _, .inl hg, ?_, hcv, hcr, by rw [he]; exact hv, fun p hp => ?_⟩, ?_⟩
        · rintro b (h | h | h | h)
          · omega
          · omega
          · exact (hvl b h).2
          · exact h.2
        · obtain ⟨a1, a2, _, _⟩ := hG.good p hp
          exact ⟨⟨a1.b, a2⟩, a1.pos, a1.le, a1.cap, a1.ints⟩
        · exact HD.out ▸ hbr
end Go.Proofs.Ytjlnfeableleeaa
