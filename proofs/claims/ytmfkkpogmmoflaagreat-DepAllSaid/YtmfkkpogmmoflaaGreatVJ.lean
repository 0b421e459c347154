/- Same, Paths; ways that came in. -/
import Derived.Test.YtmfkkpogmmoflaaGreatVI
import Derived.Test.YtmfkkpogmmoflaaGreatPL
import Derived.Test.YtmfkkpogmmoflaaGreatTU
import Derived.Test.YtmfkkpogmmoflaaGreatPar
namespace Go.Proofs.YtmfkkpogmmoflaaGreat
open Go Go.RowKit Go.Proofs

set_option maxRecDepth 100000 in
set_option maxHeartbeats 4000000 in
theorem same_any {B1 B2 : Nat} {v1 v2 : Value} {vs us : List Value} {ps : List (List ByteArray)} {W : World} (h1 : PR B1 v1 vs ps W) (h2 : PR B2 v2 us ps W) (hl : ps.length ≤ 100000) : Calls Tryz.prog 12 #[v1, v2] W fun e w' => e = .returned (.bool true) ∧ Below W.heap.size W w' := by
  obtain ⟨p1, c1, rfl, hc1, hm1⟩ := h1.row.isslice
  obtain ⟨p2, c2, rfl, hc2, hm2⟩ := h2.row.isslice
  obtain ⟨n, hn⟩ : ∃ n, ps.length = n := ⟨_, rfl⟩
  rw [hn] at hc1 hc2 h1 h2 hl ⊢
  have HR := Lib.hid (And.intro h1 (And.intro h2 hn))
  clear h1 h2 hn
  go_enter Tryz.func12, Tryz.ntmps12
  go_wp2_with fail
  go_loopg [5] (n + 1) (fun gh jv w => ∃ (j : Nat), jv = .int .i64 (j : Int) ∧ j ≤ n ∧ n + 1 ≤ j + gh ∧ Below W.heap.size W w)
  case atStart => exact ⟨0, rfl, Nat.zero_le _, by omega, Below.refl _ _⟩
  case round =>
    obtain ⟨j, rfl, hj, hg, hB⟩ := hrel
    obtain ⟨w1, rfl⟩ : ∃ w1, w1 = wr := ⟨_, rfl⟩
    by_cases hlt : j < n
    · have hjl : j < ps.length := by rw [HR.out.2.2]; exact hlt
      obtain ⟨g1, d1, e1, _, _⟩ := HR.out.1.row.slice (by omega)
      obtain ⟨rfl, -, rfl⟩ := Value.slice.inj e1
      obtain ⟨g2, d2, e2, _, _⟩ := HR.out.2.1.row.slice (by omega)
      obtain ⟨rfl, -, rfl⟩ := Value.slice.inj e2
      obtain ⟨pa, ca, k1, k2, k3⟩ := PR.elem (HR.out.1.on hB) hjl
      obtain ⟨pb, cb, k4, k5, k6⟩ := PR.elem (HR.out.2.1.on hB) hjl
      obtain ⟨x, hx⟩ : ∃ x, ps[j] = x := ⟨_, rfl⟩
      rw [hx] at k1 k2 k4 k5
      obtain ⟨lx, hlx⟩ : ∃ k, x.length = k := ⟨_, rfl⟩
      rw [hlx] at k1 k2 k4 k5
      have HQ : Hid (∀ w, Below w1.heap.size w1 w → w.cell? ⟨g1, j, none⟩ = some (.slice pa lx ca) ∧ w.cell? ⟨g2, j, none⟩ = some (.slice pb lx cb)) := Lib.hid (fun w hb => ⟨bel_cell hb k1, bel_cell hb k4⟩)
      have hz : decide (cmpP x x = 0) = true := decide_eq_true (cmpP_self x)
      have HC : Hid (∀ w, Below w1.heap.size w1 w → Calls Tryz.prog 29 #[.slice pa lx ca, .slice pb lx cb] w fun e w' => e = .returned (.bool true) ∧ Below w.heap.size w w') := Lib.hid (fun w hb => hz ▸ reqP_any (k2.later hb).rd (k5.later hb).rd)
      have HB := Lib.hid hB
      have hji : (j : Int) < (n : Int) := by omega
      clear hB e1 e2 k1 k2 k3 k4 k5 k6 hx hlx hz hjl
      go_upto_region 6 with fail
      refine Par.wp_region_par 10 [.slice (some ⟨g1, 0, none⟩) n c1, .int .i64 j, (Value.pointer (some ⟨g1, j, none⟩)), .slice pa lx ca, .slice (some ⟨g2, 0, none⟩) n c2, .int .i64 j, (Value.pointer (some ⟨g2, j, none⟩)), .slice pb lx cb, .bool true, .bool false] (fun w => Below w1.heap.size w1 w) ?A1 ?hm1 ?hB1 ?hA1 ((below_drew w1)) ?hop1 ?hT1
      case hm1 => kernel_rfl
      case hB1 => kernel_rfl
      case hA1 =>
        simp only [Par.putA, Par.dstAt, Act.put, List.getElem?_toArray, List.getElem?_cons_zero, List.getElem?_cons_succ, Option.bind_some, List.setIfInBounds_toArray, List.set_cons_zero, List.set_cons_succ, List.getD_cons_zero, List.getD_cons_succ]
        rfl
      case hop1 =>
        simp only [List.take_succ_cons, List.take_zero, Par.GiveAll, and_true]
        refine ⟨fun w' hR => ?_, fun w' hR => ?_, fun w' hR => ?_, fun w' hR => ?_, fun w' hR => ?_, fun w' hR => ?_, fun w' hR => ?_, fun w' hR => ?_, fun w' hR => ?_, fun w' hR => ?_⟩
        · have HR := Lib.hid hR
          clear hR
          simp only [Par.Gives]
          go_simp
          all_goals exact HR.out
        · have HR := Lib.hid hR
          clear hR
          simp only [Par.Gives]
          go_simp
          all_goals exact HR.out
        · have HR := Lib.hid hR
          clear hR
          simp only [Par.Gives]
          go_simp
          all_goals exact HR.out
        · have HR := Lib.hid hR
          have k := (HQ.out w' hR).1
          clear hR
          simp only [Par.Gives]
          go_simp
          all_goals exact HR.out
        · have HR := Lib.hid hR
          clear hR
          simp only [Par.Gives]
          go_simp
          all_goals exact HR.out
        · have HR := Lib.hid hR
          clear hR
          simp only [Par.Gives]
          go_simp
          all_goals exact HR.out
        · have HR := Lib.hid hR
          clear hR
          simp only [Par.Gives]
          go_simp
          all_goals exact HR.out
        · have HR := Lib.hid hR
          have k := (HQ.out w' hR).2
          clear hR
          simp only [Par.Gives]
          go_simp
          all_goals exact HR.out
        · have HR := Lib.hid hR
          clear hR
          simp only [Par.Gives]
          go_simp
          exact (HC.out _ HR.out).mono (fun e w'' ⟨he, hb⟩ => ⟨he, below_on HR.out hb⟩)
        · have HR := Lib.hid hR
          clear hR
          simp only [Par.Gives]
          go_simp
          all_goals exact HR.out
      case hT1 =>
        intro w' hR
        simp only [List.drop_succ_cons, List.drop_nil]
        have HB2 := Lib.hid (below_on HB.out hR)
        clear hR
        go_wp2_with fail
        go_roundg (n - j)
        case measure => omega
        case rel => exact ⟨j + 1, by go_num, by omega, by omega, HB2.out⟩
    · obtain rfl : j = n := by omega
      go_wp2_with fail
      go_ret
      exact ⟨rfl, hB⟩

/-! ### Paths -/
def pathsP (l : List (List ByteArray)) : List (List ByteArray) := (l.map pathP).take 6
/-- A row of ways that came in. -/
def InPs (W : World) (v : Value) (ls : List (List ByteArray)) : Prop := ∃ vs : List Value, vs.length = ls.length ∧ InR W v ls.length 1 vs ∧ ∀ j (h : j < vs.length) (h' : j < ls.length), InS W vs[j] ls[j]
theorem InPs.on {W w : World} {v : Value} {l : List (List ByteArray)} (h : InPs W v l) (hb : Below W.heap.size W w) : InPs w v l := by
  obtain ⟨vs, h1, h2, h3⟩ := h
  exact ⟨vs, h1, h2.on hb, fun j a b => (h3 j a b).on hb⟩
theorem InPs.slice {W : World} {v : Value} {l : List (List ByteArray)} (h : InPs W v l) : ∃ p cap, v = .slice p l.length cap ∧ l.length ≤ cap ∧ cap ≤ maxLen := by
  obtain ⟨vs, h1, h2, h3⟩ := h
  exact InR.slice h2
theorem InPs.elem {W : World} {p : Option Addr} {n cap : Nat} {l : List (List ByteArray)} (h : InPs W (.slice p n cap) l) {i : Nat} (hi : i < l.length) : ∃ b off u, p = some ⟨b, off, none⟩ ∧ b < W.heap.size ∧ W.cell? ⟨b, off + i, none⟩ = some u ∧ InS W u l[i] := by
  obtain ⟨vs, h1, h2, h3⟩ := h
  obtain ⟨_, _, e, _, _⟩ := InR.slice h2
  obtain ⟨rfl, rfl, rfl⟩ := Value.slice.inj e
  obtain ⟨b, off, k1, k2, k3⟩ := InR.at h2 (by omega)
  exact ⟨b, off, vs[i]'(by omega), k1, k2, k3 i _ (List.getElem?_eq_getElem (by omega)), h3 i (by omega) hi⟩
set_option maxRecDepth 100000 in
set_option maxHeartbeats 4000000 in
theorem paths_any {l : List (List ByteArray)} {v : Value} {W : World} (h : InPs W v l) : Calls Tryz.prog 7 #[v] W fun e w' => ∃ p n c vs, e = .returned (.slice p n c) ∧ n = (pathsP l).length ∧ PR W.heap.size (.slice p n c) vs (pathsP l) w' ∧ Below W.heap.size W w' := by
  obtain ⟨p, cap, rfl, hc, hm⟩ := h.slice
  obtain ⟨n, hn⟩ : ∃ n, l.length = n := ⟨_, rfl⟩
  unfold maxLen at hm
  rw [hn] at hc h ⊢
  have HR := Lib.hid (And.intro h hn)
  clear h hn
  go_enter Tryz.func7, Tryz.ntmps7
  go_wp2_with fail
  go_loopg [3, 4] (n + 1) (fun gh rv jv w => ∃ (j : Nat) (q : Option Addr) (cq : Nat) (vs : List Value), jv = .int .i64 (j : Int) ∧ j ≤ n ∧ j ≤ 6 ∧ n + 1 ≤ j + gh ∧ rv = .slice q j cq ∧ PR W.heap.size (.slice q j cq) vs ((l.map pathP).take j) w ∧ Below W.heap.size W w)
  case atStart => exact ⟨0, none, 0, [], rfl, Nat.zero_le _, Nat.zero_le _, by omega, rfl, PR.nil _ _, Below.refl _ _⟩
  case round =>
    obtain ⟨j, q, cq, vs, rfl, hj, hj6, hg, rfl, hR, hB⟩ := hrel
    have HI := Lib.hid (And.intro hR hB)
    have hlen : ((l.map pathP).take j).length = j := by rw [List.length_take, List.length_map, HR.out.2]; omega
    by_cases hlt : j < n
    · by_cases hlt6 : j < 6
      · have hjl : j < l.length := by rw [HR.out.2]; exact hlt
        obtain ⟨b, off, u, rfl, hb, c0, hu⟩ := InPs.elem (HR.out.1.on hB) hjl
        obtain ⟨x, hx⟩ : ∃ x, l[j] = x := ⟨_, rfl⟩
        rw [hx] at hu
        obtain ⟨pu, cu, rfl, _, _⟩ := InR.slice hu
        have htk : (l.map pathP).take (j + 1) = (l.map pathP).take j ++ [pathP x] := by rw [List.take_succ_eq_append_getElem (by simpa using hjl), List.getElem_map, hx]
        have hpath := path_is hu
        obtain ⟨mu, hmu⟩ : ∃ m, x.length = m := ⟨_, rfl⟩
        rw [hmu] at c0 hpath
        have HT := Lib.hid (And.intro htk hlen)
        have hji : (j : Int) < (n : Int) := by omega
        clear hR hB hu hx hmu htk hb hjl hlen
        go_wp2_with (first
          | (at_builtin; refine wpList_append_run rfl (.tmp 15) (.tmp 21) 23 rfl rfl rfl hrun ?_)
          | (go_at_call 8; (with_reducible refine hpath.mono ?_); rintro e w2 ⟨p2, n2, c2, rfl, hn2, hw2, hb2⟩; obtain ⟨g, cap', w3, hrun, h3, hb3, hk3⟩ := (HI.out.1.on hb2).snoc (ty := 23) (m := j + 1) hw2 (by rw [HT.out.2]; omega) (below_on HI.out.2 hb2).size (by rw [HT.out.2]); have H3 := Lib.hid (And.intro h3 ((below_on HI.out.2 hb2).trans hb3)); clear hn2 hw2 hb2 h3 hb3 hk3 hpath))
        go_roundg (n - j)
        case measure => omega
        case rel => exact ⟨j + 1, _, _, _, by go_num, by omega, by omega, by omega, rfl, by rw [HT.out.1]; exact H3.out.1, H3.out.2⟩
      · obtain rfl : j = 6 := by omega
        clear hR hB
        go_wp2_with fail
        go_ret
        exact ⟨_, _, _, vs, rfl, hlen.symm, HI.out.1, HI.out.2⟩
    · obtain rfl : j = n := by omega
      clear hR hB
      go_wp2_with fail
      go_ret
      have e : pathsP l = (l.map pathP).take j := by
        unfold pathsP
        rw [List.take_of_length_le (by rw [List.length_map, HR.out.2]; exact hj6), List.take_of_length_le (by rw [List.length_map, HR.out.2]; exact Nat.le_refl _)]
      exact ⟨_, _, _, vs, rfl, by rw [e]; exact hlen.symm, by rw [e]; exact HI.out.1, HI.out.2⟩
end Go.Proofs.YtmfkkpogmmoflaaGreat
namespace Go.Proofs.YtmfkkpogmmoflaaGreat
open Go Go.Deep Go.ChangeShapes Go.WideShapes Go.ChangeAt Go.RowKit

section
variable {H : Type} {enc : TypeId × Value → H} {W : World}
theorem c34w : Tryz.prog.cellsOf 25 = 1 := by kernel_rfl
theorem open_paths' {fuel : Nat} {cs : List Value} {x : DataW H × List MemPlace} (h : DataW.trod enc Tryz.prog W 0 (fun _ => true) true fuel 23 cs = some x) : ∃ v l, cs = [v] ∧ InPs W v l := by
  obtain ⟨v, rfl, L, h1, h2⟩ := open_row (α := List ByteArray × Value) (P := fun d cs' => cs' = [d.2] ∧ InS W d.2 d.1) Tryz.underlying23 c34w (by decide) h (fun n cs' y _ hy => by
    obtain ⟨v, l, e0, hS⟩ := open_ways hy
    exact ⟨(l, v), e0, hS⟩)
  refine ⟨v, (L.map (·.1)).map (·.1), rfl, (L.map (·.1)).map (·.2), by simp, ?_, fun j a b => ?_⟩
  · have e : L.flatMap (·.2) = (L.map (·.1)).map (·.2) := by
      rw [flat_congr (f := fun x => [x.2]) L (fun x hx => (h1 x hx).1.1)]
      exact List.map_eq_flatMap.symm
    rw [← e, List.length_map, List.length_map]
    exact h2
  · have hj : j < L.length := by simpa using a
    simp only [List.getElem_map]
    exact (h1 L[j] (List.getElem_mem _)).1.2
theorem open_paths {v : Value} {d : DataW H} {p : List MemPlace} (h : DataW.Trod enc Tryz.prog W 0 (fun _ => true) true 23 v d p) (hv : ∃ a l c, v = .slice a l c) : ∃ l, InPs W v l := by
  obtain ⟨a0, len, cap, rfl⟩ := hv
  obtain ⟨fuel, hf⟩ := h
  obtain ⟨v, l, e, hl⟩ := open_paths' hf
  simp [Value.cells] at e
  exact ⟨l, by rw [e]; exact hl⟩
end
end Go.Proofs.YtmfkkpogmmoflaaGreat
