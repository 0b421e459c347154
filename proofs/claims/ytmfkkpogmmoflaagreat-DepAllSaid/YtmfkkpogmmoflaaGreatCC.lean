/- has, Index, Contains. -/
import Derived.Test.YtmfkkpogmmoflaaGreatB
namespace Go.Proofs.YtmfkkpogmmoflaaGreat
open Go Go.RowKit Go.Proofs

set_option maxRecDepth 100000 in
theorem has_any {l : List C} {v : Value} {x : ByteArray} {W : World} (h : RdC W v l) : Calls Tryz.prog 84 #[v, .string x] W fun e w' => e = .returned (.bool (hasC l x)) ∧ Below W.heap.size W w' := by
  have hc := column_any (x := x) h
  obtain ⟨p, cap, rfl, _, _⟩ := h.slice
  generalize orC (colOf l x) = c at hc
  generalize hasC l x = r at hc ⊢
  unfold colV at hc
  clear h
  go_enter Tryz.func84, Tryz.ntmps84
  go_wp2_with (go_at_call 87; (with_reducible refine hc.mono ?_); rintro e w1 ⟨rfl, hb⟩)
  go_ret
  exact ⟨rfl, hb.alloc hb.size _⟩

theorem ixS_at {l : List ByteArray} {x : ByteArray} (j : Nat) (h : j < l.length) (hp : eqS x l[j] = true) (hn : ∀ i (hi : i < j), eqS x (l[i]'(by omega)) = false) : ixS l x = (j : Int) ∧ hasS l x = true := by
  obtain ⟨_, h2, h3⟩ := first_at (p := eqS x) l j h hp hn
  unfold ixS hasS
  rw [h3]; exact ⟨rfl, h2⟩
theorem ixS_none {l : List ByteArray} {x : ByteArray} (hn : ∀ i (hi : i < l.length), eqS x l[i] = false) : ixS l x = -1 ∧ hasS l x = false := by
  obtain ⟨_, h2, h3⟩ := none_at (p := eqS x) l hn
  unfold ixS hasS
  rw [h3]; exact ⟨rfl, h2⟩
theorem ixS_has (l : List ByteArray) (x : ByteArray) : decide (0 ≤ ixS l x) = hasS l x := by
  unfold ixS hasS
  rw [find_any]
  have := find_idx (p := eqS x) l
  cases h : l.findIdx? (eqS x) with
  | none => rw [h] at this; simp only at this; rw [this]; rfl
  | some j => rw [h] at this; obtain ⟨h1, h2, h3⟩ := this; rw [h2]; simp

set_option maxRecDepth 100000 in
set_option maxHeartbeats 1000000 in
theorem index_any {l : List ByteArray} {v : Value} {x : ByteArray} {W : World} (h : RdS W v l) : Calls Tryz.prog 105 #[v, .string x] W fun e w' => e = .returned (.int .i64 (ixS l x)) ∧ w' = W := by
  obtain ⟨p, cap, rfl, hc, hm⟩ := h.slice
  obtain ⟨n, hn⟩ : ∃ n, l.length = n := ⟨_, rfl⟩
  unfold maxLen at hm
  rw [hn] at hc ⊢
  rw [hn] at h
  have HR := Lib.hid h
  have HN := Lib.hid hn
  clear h hn
  go_enter Tryz.func105, Tryz.ntmps105
  go_wp2_with fail
  go_loopg [5, 8] (n + 1) (fun gh _ jv w => ∃ (j : Nat), jv = .int .i64 (j : Int) ∧ j ≤ n ∧ n + 1 ≤ j + gh ∧ (∀ i (h : i < l.length), i < j → eqS x l[i] = false) ∧ w = W)
  case atStart => exact ⟨0, rfl, Nat.zero_le _, by omega, fun i _ hi => by omega, rfl⟩
  case round =>
    obtain ⟨j, rfl, hj, hg, hno, rfl⟩ := hrel
    have HI := Lib.hid hno
    clear hno
    by_cases hlt : j < n
    · have hjl : j < l.length := by rw [HN.out]; exact hlt
      obtain ⟨b, off, rfl, hb, c0⟩ := RdS.word HR.out hjl
      obtain ⟨c, hcj⟩ : ∃ c, l[j] = c := ⟨_, rfl⟩
      rw [hcj] at c0
      have HC := Lib.hid hcj
      clear hcj
      cases hx : eqS x c
      · have HX := Lib.hid hx
        have hx2 : (x.toList == c.toList) = false := by rw [eqS_toList]; exact hx
        clear hx
        go_wp2_with fail
        go_roundg (n - j)
        case measure => omega
        case rel =>
          refine ⟨j + 1, by go_num, by omega, by omega, fun i hi hij => ?_, rfl⟩
          by_cases e : i = j
          · subst e; rw [HC.out]; exact HX.out
          · exact HI.out i hi (by omega)
      · have HX := Lib.hid hx
        have hx2 : (x.toList == c.toList) = true := by rw [eqS_toList]; exact hx
        clear hx
        go_wp2_with fail
        go_ret
        exact ⟨ret_int (ixS_at j (by rw [HN.out]; exact hlt) (by rw [HC.out]; exact HX.out) (fun i hi => HI.out i _ hi)).1.symm, rfl⟩
    · go_wp2_with fail
      go_ret
      exact ⟨ret_int (ixS_none (fun i hi => HI.out i hi (by have := HN.out; omega))).1.symm, rfl⟩
set_option maxRecDepth 100000 in
theorem contains_any {l : List ByteArray} {v : Value} {x : ByteArray} {W : World} (h : RdS W v l) : Calls Tryz.prog 86 #[v, .string x] W fun e w' => e = .returned (.bool (hasS l x)) ∧ w' = W := by
  have hc := index_any (x := x) h
  have he := ixS_has l x
  obtain ⟨p, cap, rfl, _, _⟩ := h.slice
  generalize ixS l x = z at hc he
  clear h
  have HE := Lib.hid he
  clear he
  go_enter Tryz.func86, Tryz.ntmps86
  go_wp2_with (go_at_call 105; (with_reducible refine hc.mono ?_); rintro e w1 ⟨rfl, rfl⟩)
  go_ret
  exact ⟨ret_bool HE.out, rfl⟩

/-! ### A dep in memory -/
def cellsD : List Value → List D → List Value
  | p :: ps, d :: ds => p :: .string d.right :: cellsD ps ds
  | _, _ => []
theorem cellsD_at : ∀ (ps : List Value) (ds : List D) (i : Nat) (h : i < ps.length) (h' : i < ds.length), (cellsD ps ds)[i * 2]? = some ps[i] ∧ (cellsD ps ds)[i * 2 + 1]? = some (.string ds[i].right)
  | [], _, _, h, _ => absurd h (Nat.not_lt_zero _)
  | _ :: _, [], _, _, h => absurd h (Nat.not_lt_zero _)
  | p :: ps, d :: ds, 0, _, _ => ⟨rfl, rfl⟩
  | p :: ps, d :: ds, i + 1, h, h' => by
    have := cellsD_at ps ds i (by simpa using h) (by simpa using h')
    rw [show (i + 1) * 2 = i * 2 + 1 + 1 by omega]
    simp only [cellsD, List.getElem?_cons_succ, List.getElem_cons_succ]
    exact this
theorem cellsD_len : ∀ (ps : List Value) (ds : List D), ps.length = ds.length → (cellsD ps ds).length = ds.length * 2
  | [], [], _ => rfl
  | [], _ :: _, h => by simp at h
  | _ :: _, [], h => by simp at h
  | p :: ps, d :: ds, h => by
    have := cellsD_len ps ds (by simpa using h)
    simp only [cellsD, List.length_cons, this]; omega
theorem cellsD_append : ∀ (ps : List Value) (ds : List D) (q : List Value) (es : List D), ps.length = ds.length → cellsD (ps ++ q) (ds ++ es) = cellsD ps ds ++ cellsD q es
  | [], [], _, _, _ => rfl
  | [], _ :: _, _, _, h => by simp at h
  | _ :: _, [], _, _, h => by simp at h
  | p :: ps, d :: ds, q, es, h => by
    have := cellsD_append ps ds q es (by simpa using h)
    simp only [List.cons_append, cellsD, this]
def RdD (W : World) (v : Value) (ds : List D) : Prop := ∃ ps : List Value, ps.length = ds.length ∧ Rd W v ds.length 2 (cellsD ps ds) ∧ ∀ j (h : j < ps.length) (h' : j < ds.length), RdS W ps[j] ds[j].left
theorem RdC.kp {W W' : World} {v : Value} {l : List C} (h : RdC W v l) (hk : Kp W W') : RdC W' v l := Rd.kp h hk
theorem RdC.later {W W' : World} {v : Value} {l : List C} (h : RdC W v l) (hb : Below W.heap.size W W') : RdC W' v l := Rd.kp h (.below hb)
theorem RdS.kp {W W' : World} {v : Value} {l : List ByteArray} (h : RdS W v l) (hk : Kp W W') : RdS W' v l := Rd.kp h hk
theorem RdS.later {W W' : World} {v : Value} {l : List ByteArray} (h : RdS W v l) (hb : Below W.heap.size W W') : RdS W' v l := Rd.kp h (.below hb)
theorem RdD.kp {W W' : World} {v : Value} {ds : List D} (h : RdD W v ds) (hk : Kp W W') : RdD W' v ds := by
  obtain ⟨ps, h1, h2, h3⟩ := h
  exact ⟨ps, h1, Rd.kp h2 hk, fun j a b => (h3 j a b).kp hk⟩
theorem RdD.later {W W' : World} {v : Value} {ds : List D} (h : RdD W v ds) (hb : Below W.heap.size W W') : RdD W' v ds := h.kp (.below hb)
theorem RdD.slice {W : World} {v : Value} {ds : List D} (h : RdD W v ds) : ∃ p cap, v = .slice p ds.length cap ∧ ds.length ≤ cap ∧ cap ≤ maxLen := by
  obtain ⟨ps, h1, h2, h3⟩ := h
  exact Rd.slice h2
theorem RdD.dep {W : World} {p : Option Addr} {n cap : Nat} {ds : List D} (h : RdD W (.slice p n cap) ds) {i : Nat} (hi : i < ds.length) : ∃ b off lv, p = some ⟨b, off, none⟩ ∧ b < W.heap.size ∧
    W.cell? ⟨b, off + i * 2, none⟩ = some lv ∧ W.cell? ⟨b, off + i * 2 + 1, none⟩ = some (.string ds[i].right) ∧ RdS W lv ds[i].left := by
  obtain ⟨ps, k1, k2, k3⟩ := h
  obtain ⟨_, _, e, _, _⟩ := Rd.slice k2
  obtain ⟨rfl, rfl, rfl⟩ := Value.slice.inj e
  obtain ⟨b, off, h1, h2, h3⟩ := Rd.at k2 (by omega)
  obtain ⟨c0, c1⟩ := cellsD_at ps ds i (by omega) hi
  exact ⟨b, off, _, h1, h2, h3 _ _ c0, by rw [Nat.add_assoc]; exact h3 _ _ c1, k3 i (by omega) hi⟩
/-- A table's lists. -/
def RdT (W : World) (cv dv : Value) (t : T) : Prop := RdC W cv t.cols ∧ RdD W dv t.deps
theorem RdT.kp {W W' : World} {cv dv : Value} {t : T} (h : RdT W cv dv t) (hk : Kp W W') : RdT W' cv dv t := ⟨h.1.kp hk, h.2.kp hk⟩
theorem RdT.later {W W' : World} {cv dv : Value} {t : T} (h : RdT W cv dv t) (hb : Below W.heap.size W W') : RdT W' cv dv t := h.kp (.below hb)
/-- Its words are not too long. -/
def SmC (l : List C) : Prop := ∀ c ∈ l, c.nm.size ≤ maxLen
def Sm (t : T) : Prop := t.nm.size ≤ maxLen ∧ SmC t.cols
end Go.Proofs.YtmfkkpogmmoflaaGreat
