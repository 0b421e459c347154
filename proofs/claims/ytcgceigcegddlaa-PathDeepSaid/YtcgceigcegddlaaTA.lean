/- What came in; Cut, Path. -/
import Derived.Test.YtcgceigcegddlaaSB
namespace Go.Proofs.Ytcgceigcegddlaa
open Go Go.RowKit Go.Proofs

/-- A slice that came in. -/
def InR (W : World) (v : Value) (n k : Nat) (xs : List Value) : Prop := xs.length = n * k ∧ ∃ p cap, v = .slice p n cap ∧ n ≤ cap ∧ cap ≤ maxLen ∧ (0 < n → ∃ b off, p = some ⟨b, off, none⟩ ∧ b < W.heap.size ∧ ∀ j u, xs[j]? = some u → W.cell? ⟨b, off + j, none⟩ = some u)
theorem InR.on {W w : World} {v : Value} {n k : Nat} {xs : List Value} (h : InR W v n k xs) (hb : Below W.heap.size W w) : InR w v n k xs := by
  obtain ⟨h0, p, cap, h1, h2, h3, h4⟩ := h
  refine ⟨h0, p, cap, h1, h2, h3, fun hn => ?_⟩
  obtain ⟨b, off, h5, h6, h7⟩ := h4 hn
  exact ⟨b, off, h5, Nat.lt_of_lt_of_le h6 hb.size, fun j u hj => (World.cell?_of_block (w := W) (hb.block b h6)).trans (h7 j u hj)⟩
theorem InR.slice {W : World} {v : Value} {n k : Nat} {xs : List Value} (h : InR W v n k xs) : ∃ p cap, v = .slice p n cap ∧ n ≤ cap ∧ cap ≤ maxLen := by
  obtain ⟨h0, p, cap, h1, h2, h3, h4⟩ := h
  exact ⟨p, cap, h1, h2, h3⟩
theorem InR.at {W : World} {p : Option Addr} {n k cap : Nat} {xs : List Value} (h : InR W (.slice p n cap) n k xs) (hn : 0 < n) : ∃ b off, p = some ⟨b, off, none⟩ ∧ b < W.heap.size ∧ ∀ j u, xs[j]? = some u → W.cell? ⟨b, off + j, none⟩ = some u := by
  obtain ⟨h0, p', cap', h1, h2, h3, h4⟩ := h
  obtain ⟨rfl, -, rfl⟩ := Value.slice.inj h1
  exact h4 hn
def InC (W : World) (v : Value) (l : List C) : Prop := InR W v l.length 4 (cellsC l)
def InS (W : World) (v : Value) (l : List ByteArray) : Prop := InR W v l.length 1 (cellsS l)
def InD (W : World) (v : Value) (ds : List D) : Prop := ∃ ps : List Value, ps.length = ds.length ∧ InR W v ds.length 2 (cellsD ps ds) ∧ ∀ j (h : j < ps.length) (h' : j < ds.length), InS W ps[j] ds[j].left
def InT (W : World) (cv dv : Value) (t : T) : Prop := InC W cv t.cols ∧ InD W dv t.deps
def InTs (W : World) (v : Value) (ts : List T) : Prop := ∃ xs, InR W v ts.length 4 xs ∧ ∀ j (h : j < ts.length), ∃ cv dv, xs[j * 4]? = some (.string ts[j].nm) ∧ xs[j * 4 + 1]? = some cv ∧ xs[j * 4 + 2]? = some (.string ts[j].key) ∧ xs[j * 4 + 3]? = some dv ∧ InT W cv dv ts[j]
theorem InS.on {W w : World} {v : Value} {l : List ByteArray} (h : InS W v l) (hb : Below W.heap.size W w) : InS w v l := InR.on h hb
theorem InC.on {W w : World} {v : Value} {l : List C} (h : InC W v l) (hb : Below W.heap.size W w) : InC w v l := InR.on h hb
theorem InD.on {W w : World} {v : Value} {l : List D} (h : InD W v l) (hb : Below W.heap.size W w) : InD w v l := by
  obtain ⟨ps, h1, h2, h3⟩ := h
  exact ⟨ps, h1, h2.on hb, fun j a b => (h3 j a b).on hb⟩
theorem InT.on {W w : World} {cv dv : Value} {t : T} (h : InT W cv dv t) (hb : Below W.heap.size W w) : InT w cv dv t := ⟨h.1.on hb, h.2.on hb⟩
theorem InTs.on {W w : World} {v : Value} {ts : List T} (h : InTs W v ts) (hb : Below W.heap.size W w) : InTs w v ts := by
  obtain ⟨xs, h1, h2⟩ := h
  refine ⟨xs, h1.on hb, fun j hj => ?_⟩
  obtain ⟨cv, dv, a0, a1, a2, a3, a4⟩ := h2 j hj
  exact ⟨cv, dv, a0, a1, a2, a3, a4.on hb⟩
theorem InS.word {W : World} {p : Option Addr} {n cap : Nat} {l : List ByteArray} (h : InS W (.slice p n cap) l) {i : Nat} (hi : i < l.length) : ∃ b off, p = some ⟨b, off, none⟩ ∧ b < W.heap.size ∧ W.cell? ⟨b, off + i, none⟩ = some (.string l[i]) := by
  obtain ⟨_, _, e, _, _⟩ := InR.slice h
  obtain ⟨rfl, rfl, rfl⟩ := Value.slice.inj e
  obtain ⟨b, off, h1, h2, h3⟩ := InR.at h (by omega)
  exact ⟨b, off, h1, h2, h3 _ _ (by unfold cellsS; rw [List.getElem?_map, List.getElem?_eq_getElem hi]; rfl)⟩
theorem InC.col {W : World} {p : Option Addr} {n cap : Nat} {l : List C} (h : InC W (.slice p n cap) l) {i : Nat} (hi : i < l.length) : ∃ b off, p = some ⟨b, off, none⟩ ∧ b < W.heap.size ∧
    W.cell? ⟨b, off + i * 4, none⟩ = some (.string l[i].nm) ∧ W.cell? ⟨b, off + i * 4 + 1, none⟩ = some (.int .i64 l[i].kd) ∧ W.cell? ⟨b, off + i * 4 + 2, none⟩ = some (.bool l[i].mu) ∧ W.cell? ⟨b, off + i * 4 + 3, none⟩ = some (.string l[i].tgt) := by
  obtain ⟨_, _, e, _, _⟩ := InR.slice h
  obtain ⟨rfl, rfl, rfl⟩ := Value.slice.inj e
  obtain ⟨b, off, h1, h2, h3⟩ := InR.at h (by omega)
  obtain ⟨c0, c1, c2, c3⟩ := cellsC_at l i hi
  exact ⟨b, off, h1, h2, h3 _ _ c0, by rw [Nat.add_assoc]; exact h3 _ _ c1, by rw [Nat.add_assoc]; exact h3 _ _ c2, by rw [Nat.add_assoc]; exact h3 _ _ c3⟩
theorem InD.slice {W : World} {v : Value} {ds : List D} (h : InD W v ds) : ∃ p cap, v = .slice p ds.length cap ∧ ds.length ≤ cap ∧ cap ≤ maxLen := by
  obtain ⟨ps, h1, h2, h3⟩ := h
  exact InR.slice h2
theorem InD.dep {W : World} {p : Option Addr} {n cap : Nat} {ds : List D} (h : InD W (.slice p n cap) ds) {i : Nat} (hi : i < ds.length) : ∃ b off lv, p = some ⟨b, off, none⟩ ∧ b < W.heap.size ∧
    W.cell? ⟨b, off + i * 2, none⟩ = some lv ∧ W.cell? ⟨b, off + i * 2 + 1, none⟩ = some (.string ds[i].right) ∧ InS W lv ds[i].left := by
  obtain ⟨ps, k1, k2, k3⟩ := h
  obtain ⟨_, _, e, _, _⟩ := InR.slice k2
  obtain ⟨rfl, rfl, rfl⟩ := Value.slice.inj e
  obtain ⟨b, off, h1, h2, h3⟩ := InR.at k2 (by omega)
  obtain ⟨c0, c1⟩ := cellsD_at ps ds i (by omega) hi
  exact ⟨b, off, _, h1, h2, h3 _ _ c0, by rw [Nat.add_assoc]; exact h3 _ _ c1, k3 i (by omega) hi⟩
theorem InTs.slice {W : World} {v : Value} {ts : List T} (h : InTs W v ts) : ∃ p cap, v = .slice p ts.length cap ∧ ts.length ≤ cap ∧ cap ≤ maxLen := by
  obtain ⟨xs, h1, h2⟩ := h
  exact InR.slice h1
theorem InTs.tab {W : World} {p : Option Addr} {n cap : Nat} {ts : List T} (h : InTs W (.slice p n cap) ts) {i : Nat} (hi : i < ts.length) : ∃ b off cv dv, p = some ⟨b, off, none⟩ ∧ b < W.heap.size ∧
    W.cell? ⟨b, off + i * 4, none⟩ = some (.string ts[i].nm) ∧ W.cell? ⟨b, off + i * 4 + 1, none⟩ = some cv ∧ W.cell? ⟨b, off + i * 4 + 2, none⟩ = some (.string ts[i].key) ∧ W.cell? ⟨b, off + i * 4 + 3, none⟩ = some dv ∧ InT W cv dv ts[i] := by
  obtain ⟨xs, k1, k2⟩ := h
  obtain ⟨_, _, e, _, _⟩ := InR.slice k1
  obtain ⟨rfl, rfl, rfl⟩ := Value.slice.inj e
  obtain ⟨b, off, h1, h2, h3⟩ := InR.at k1 (by omega)
  obtain ⟨cv, dv, c0, c1, c2, c3, c4⟩ := k2 i hi
  exact ⟨b, off, cv, dv, h1, h2, h3 _ _ c0, by rw [Nat.add_assoc]; exact h3 _ _ c1, by rw [Nat.add_assoc]; exact h3 _ _ c2, by rw [Nat.add_assoc]; exact h3 _ _ c3, c4⟩

def cutB (m : Nat) (s : ByteArray) : ByteArray := if m < s.size then s.extract 0 m else s
theorem cutB_le (m : Nat) (s : ByteArray) : (cutB m s).size ≤ m := by
  unfold cutB; split
  · simp; omega
  · omega
theorem cut_any (s : ByteArray) (w : World) : Calls Try.prog 24 #[.string s, .int .i64 20] w fun e w' => e = .returned (.string (cutB 20 s)) ∧ w' = w := by
  unfold cutB
  by_cases h : 20 < s.size
  · rw [if_pos h]
    go_enter Try.func24, Try.ntmps24
    go_wp2
    go_ret
    exact ⟨rfl, rfl⟩
  · rw [if_neg h]
    go_enter Try.func24, Try.ntmps24
    go_wp2
    go_ret
    exact ⟨rfl, rfl⟩
def pathP (l : List ByteArray) : List ByteArray := (l.map (cutB 20)).take 6
theorem pathP_len (l : List ByteArray) : (pathP l).length ≤ 6 := by unfold pathP; rw [List.length_take]; omega
set_option maxRecDepth 100000 in
set_option maxHeartbeats 2000000 in
theorem path_any {l : List ByteArray} {v : Value} {W : World} (h : InS W v l) : Calls Try.prog 9 #[v] W fun e w' => ∃ p n c, e = .returned (.slice p n c) ∧ n = (pathP l).length ∧ HRow w' W.heap.size 9 1 (.slice p n c) n (cellsS (pathP l)) ∧ Below W.heap.size W w' := by
  obtain ⟨p, cap, rfl, hc, hm⟩ := InR.slice h
  obtain ⟨n, hn⟩ : ∃ n, l.length = n := ⟨_, rfl⟩
  unfold maxLen at hm
  rw [hn] at hc h ⊢
  have HR := Lib.hid h
  have HN := Lib.hid hn
  clear h hn
  go_enter Try.func9, Try.ntmps9
  go_wp2_with fail
  go_loopg [3, 4] (n + 1) (fun gh rv jv w => ∃ (j : Nat) (q : Option Addr) (cq : Nat), jv = .int .i64 (j : Int) ∧ j ≤ n ∧ j ≤ 6 ∧ n + 1 ≤ j + gh ∧ rv = .slice q j cq ∧ HRow w W.heap.size 9 1 (.slice q j cq) j (cellsS ((l.map (cutB 20)).take j)) ∧ Below W.heap.size W w)
  case atStart => exact ⟨0, none, 0, rfl, Nat.zero_le _, Nat.zero_le _, by omega, rfl, HRow.nil, Below.refl _ _⟩
  case round =>
    obtain ⟨j, q, cq, rfl, hj, hj6, hg, rfl, hR, hB⟩ := hrel
    have HI := Lib.hid (And.intro hR hB)
    by_cases hlt : j < n
    · by_cases hlt6 : j < 6
      · have hjl : j < l.length := by rw [HN.out]; exact hlt
        obtain ⟨b, off, rfl, hb, c0⟩ := InS.word (HR.out.on hB) hjl
        obtain ⟨x, hx⟩ : ∃ x, l[j] = x := ⟨_, rfl⟩
        rw [hx] at c0
        obtain ⟨y, hy⟩ : ∃ y, cutB 20 x = y := ⟨_, rfl⟩
        have htk : cellsS ((l.map (cutB 20)).take (j + 1)) = cellsS ((l.map (cutB 20)).take j) ++ [.string y] := by rw [List.take_succ_eq_append_getElem (by simpa using hjl), List.getElem_map, hx, hy]; simp [cellsS]
        have hcut := cut_any x wr
        rw [hy] at hcut
        obtain ⟨g, cap', w3, hrun, r3, g3, o3⟩ := app_one (ty := 24) Try.underlying24 info9 (by kernel_rfl) (by decide) (by decide) wr W.heap.size hR (by omega) hB.size #[.string y] rfl (by intro u hu; simp only [List.mem_cons, List.not_mem_nil, or_false] at hu; subst hu; rfl)
        have H3 := Lib.hid (And.intro r3 (And.intro (hB.trans (below_row hR g3 (Nat.le_refl _) hB.size)) htk))
        clear hR hB r3 g3 o3 hx hy htk
        go_wp2_with (first
          | (at_builtin; refine wpList_append_run rfl (.tmp 15) (.tmp 21) 24 rfl rfl rfl hrun ?_)
          | (go_at_call 24; (with_reducible refine hcut.mono ?_); rintro e w2 ⟨rfl, hw2⟩; subst w2))
        go_roundg (n - j)
        case measure => omega
        case rel => exact ⟨j + 1, _, _, by go_num, by omega, by omega, by omega, rfl, by rw [H3.out.2.2]; exact H3.out.1, H3.out.2.1⟩
      · obtain rfl : j = 6 := by omega
        clear hR hB
        go_wp2_with fail
        go_ret
        have e : pathP l = (l.map (cutB 20)).take 6 := rfl
        exact ⟨_, _, _, rfl, by rw [e, List.length_take, List.length_map, HN.out]; omega, by rw [e]; exact HI.out.1, HI.out.2⟩
    · obtain rfl : j = n := by omega
      clear hR hB
      go_wp2_with fail
      go_ret
      have e : pathP l = (l.map (cutB 20)).take j := by
        unfold pathP
        rw [List.take_of_length_le (by rw [List.length_map, HN.out]; exact hj6), List.take_of_length_le (by rw [List.length_map, HN.out]; exact Nat.le_refl _)]
      exact ⟨_, _, _, rfl, by rw [e, List.length_take, List.length_map, HN.out]; omega, by rw [e]; exact HI.out.1, HI.out.2⟩
end Go.Proofs.Ytcgceigcegddlaa
