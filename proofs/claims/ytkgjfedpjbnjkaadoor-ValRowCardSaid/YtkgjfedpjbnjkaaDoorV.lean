/- Vals: of any row that came in, its first values, cut: a row of the call's own. -/
import Derived.Test.YtkgjfedpjbnjkaaDoorX
import Derived.WalkSmall
import Derived.Deep.AppendLies
import Derived.Laws.Rows
namespace Go.Proofs.YtkgjfedpjbnjkaaDoor
open Go Go.RowKit

/-- A row that came in. -/
def RowIn (w : World) (v : Value) (xs : List T3) : Prop :=
  ((v = .slice none 0 0 ∧ xs = []) ∨ ∃ a cap, v = .slice (some a) 0 cap ∧ xs = []) ∨ ∃ b off cap, v = .slice (some ⟨b, off, none⟩) xs.length cap ∧ b < w.heap.size ∧ xs.length ≤ maxLen ∧
    ∀ i (h : i < xs.length), (w.cell? ⟨b, off + i * 3, none⟩ = some (.int .i64 xs[i].1) ∧ w.cell? ⟨b, off + i * 3 + 1, none⟩ = some (.int .i64 xs[i].2.1) ∧ w.cell? ⟨b, off + i * 3 + 2, none⟩ = some (.string xs[i].2.2)) ∧ xs[i].2.2.size ≤ maxLen
theorem RowIn.on {w w' : World} {v : Value} {xs : List T3} (h : RowIn w v xs) (hb : Below w.heap.size w w') : RowIn w' v xs := by
  rcases h with h | ⟨b, off, cap, h1, h2, h3, h4⟩
  · exact .inl h
  · obtain ⟨hc, _⟩ := bcell hb
    refine .inr ⟨b, off, cap, h1, Nat.lt_of_lt_of_le h2 hb.size, h3, fun i hi => ?_⟩
    rw [hc _ _ h2, hc _ _ h2, hc _ _ h2]
    exact h4 i hi

/-- A value cut, a row cut. -/
def cutT (x : T3) : T3 := (x.1, x.2.1, cutB 20 x.2.2)
def cutR (xs : List T3) : List T3 := (xs.map cutT).take 6
theorem cutR_le (xs : List T3) : (cutR xs).length ≤ maxLen := by
  have h : (cutR xs).length ≤ 6 := by simp [cutR]; omega
  exact Nat.le_trans h (by decide)
/-- The cells of a row. -/
def cellsR (xs : List T3) : List Value := xs.flatMap fun x => [.int .i64 x.1, .int .i64 x.2.1, .string x.2.2]
theorem cellsR_append (xs ys : List T3) : cellsR (xs ++ ys) = cellsR xs ++ cellsR ys := by simp [cellsR]
theorem cellsR_at (xs : List T3) (i : Nat) (h : i < xs.length) : (cellsR xs)[i * 3]? = some (.int .i64 xs[i].1) ∧ (cellsR xs)[i * 3 + 1]? = some (.int .i64 xs[i].2.1) ∧ (cellsR xs)[i * 3 + 2]? = some (.string xs[i].2.2) := by
  induction xs generalizing i with
  | nil => simp at h
  | cons x r ih =>
    cases i with
    | zero => simp [cellsR]
    | succ i =>
      have := ih i (by simpa using h)
      have e : cellsR (x :: r) = [.int .i64 x.1, .int .i64 x.2.1, .string x.2.2] ++ cellsR r := by simp [cellsR]
      rw [e]
      rw [show (i + 1) * 3 = 3 + i * 3 by omega, show 3 + i * 3 + 1 = 3 + (i * 3 + 1) by omega, show 3 + i * 3 + 2 = 3 + (i * 3 + 2) by omega]
      rw [List.getElem?_append_right (by simp), List.getElem?_append_right (by simp), List.getElem?_append_right (by simp)]
      simpa using this

theorem owns_on {w w' : World} {base size n : Nat} {e : TypeId} {v : Value} {xs : List Value} (h : w.ownsRow base e size v n xs) (hb : Below w.heap.size w w') : w'.ownsRow base e size v n xs := by
  refine ⟨h.1, ?_⟩
  rcases h.2 with h2 | ⟨g, cap, cur, h3, h4, h5, h6⟩
  · exact .inl h2
  · refine .inr ⟨g, cap, cur, h3, h4, ?_, h6⟩
    have hlt : g < w.heap.size := by
      rcases Nat.lt_or_ge g w.heap.size with h' | h'
      · exact h'
      · rw [Array.getElem?_eq_none h'] at h5; cases h5
    rw [hb.block g hlt]; exact h5
theorem owns_block {w : World} {base size n : Nat} {e : TypeId} {v : Value} {xs : List Value} (h : w.ownsRow base e size v n xs) : ∀ k, v.ownBlock = some k → base ≤ k := by
  intro k hk
  rcases h.2 with ⟨h2, _⟩ | ⟨g, cap, cur, h3, h4, _⟩
  · rw [h2] at hk; cases hk
  · rw [h3] at hk
    cases hk
    exact h4
/-- What the call owns is a row. -/
theorem row_of_owns {w : World} {base : Nat} {v : Value} {xs : List T3} (h : w.ownsRow base 23 3 v xs.length (cellsR xs)) : RowV w v xs := by
  rcases h.2 with ⟨h2, h3⟩ | ⟨g, cap, cur, h3, h4, h5, h6, h7, h8, h9⟩
  · exact .inl ⟨h2, List.eq_nil_of_length_eq_zero h3⟩
  · refine .inr ⟨g, cap, h3, ?_, fun i hi => ?_⟩
    · rcases Nat.lt_or_ge g w.heap.size with h' | h'
      · exact h'
      · rw [Array.getElem?_eq_none h'] at h5; cases h5
    · have hat : ∀ j, j < xs.length * 3 → cur[j]? = (cellsR xs)[j]? := fun j hj => by
        rw [← h9, List.getElem?_take, if_pos hj, Array.getElem?_toList]
      rw [Joins.cell_of_block h5, Joins.cell_of_block h5, Joins.cell_of_block h5, hat _ (by omega), hat _ (by omega), hat _ (by omega)]
      exact cellsR_at xs i hi

theorem info23 : (Tryd.prog.info? 23).map (fun i => (i.zero, i.size, i.bytes)) = some (some (.agg #[.int .i64 0, .int .i64 0, .string ⟨#[]⟩]), 3, 32) := by kernel_rfl
theorem cutR_snoc (xs : List T3) (k : Nat) (h : k < xs.length) : cellsR ((xs.map cutT).take (k + 1)) = cellsR ((xs.map cutT).take k) ++ [.int .i64 xs[k].1, .int .i64 xs[k].2.1, .string (cutB 20 xs[k].2.2)] := by
  rw [List.take_succ_eq_append_getElem (by simpa using h), cellsR_append]
  simp [cellsR, cutT]
theorem row_cut {w : World} {base : Nat} {v : Value} {xs : List T3} {k : Nat} (h : w.ownsRow base 23 3 v k (cellsR ((xs.map cutT).take k))) (hk : k ≤ xs.length) (h6 : k = 6 ∨ (k = xs.length ∧ k ≤ 6)) : RowV w v (cutR xs) := by
  have e : cutR xs = (xs.map cutT).take k := by
    unfold cutR
    rcases h6 with rfl | ⟨rfl, h6⟩
    · rfl
    · rw [List.take_of_length_le (by simpa using h6), List.take_of_length_le (by simp)]
  rw [e]
  have hl : ((xs.map cutT).take k).length = k := by simp; omega
  refine row_of_owns (base := base) ?_
  rw [hl]; exact h

set_option maxRecDepth 100000 in
set_option maxHeartbeats 4000000 in
theorem vals_any (v : Value) (xs : List T3) (w : World) (h : RowIn w v xs) :
    Calls Tryd.prog 23 #[v, .int .i64 6] w fun e w' => ∃ v', e = .returned v' ∧ RowV w' v' (cutR xs) ∧ Below w.heap.size w w' := by
  obtain ⟨i0, hi, hz0, hz1, hz2⟩ := info_parts info23
  rcases h with (⟨rfl, rfl⟩ | ⟨a, cap, rfl, rfl⟩) | ⟨b, off, cap, rfl, hb0, hlen, hcells⟩
  · go_enter Tryd.func23, Tryd.ntmps23
    go_wp2
    refine wp_loop_rounds 1 ?_
    rw [rounds_succ]
    go_wp2
    go_ret
    exact ⟨_, rfl, .inl ⟨rfl, rfl⟩, Below.refl _ _⟩
  · go_enter Tryd.func23, Tryd.ntmps23
    go_wp2
    refine wp_loop_rounds 1 ?_
    rw [rounds_succ]
    go_wp2
    go_ret
    exact ⟨_, rfl, .inl ⟨rfl, rfl⟩, Below.refl _ _⟩
  · have R := Lib.hid (show RowIn w (.slice (some ⟨b, off, none⟩) xs.length cap) xs from .inr ⟨b, off, cap, rfl, hb0, hlen, hcells⟩)
    have HCELLS := Lib.hid hcells
    clear hcells
    have hl2 := hlen
    unfold maxLen at hlen
    go_enter Tryd.func23, Tryd.ntmps23
    go_wp2
    go_loopw [5, 6] (fun t i wr => ∃ k : Nat, k ≤ xs.length ∧ k ≤ 6 ∧ i = .int .i64 k ∧ wr.ownsRow w.heap.size 23 3 t k (cellsR ((xs.map cutT).take k)) ∧ Below w.heap.size w wr) (fun _ i _ => 6 - (intOf i).toNat)
    case atStart => exact ⟨0, Nat.zero_le _, Nat.zero_le _, rfl, ⟨by simp [cellsR], .inl ⟨rfl, rfl⟩⟩, Below.refl _ _⟩
    case round =>
      obtain ⟨k, hk, hk6, rfl, hown, hb⟩ := hrel
      have HO := Lib.hid hown
      have HB := Lib.hid hb
      clear hown hb
      by_cases hlt : k < xs.length
      · by_cases hlt6 : k < 6
        · obtain ⟨⟨a0, a1, a2⟩, hs⟩ := HCELLS.out k hlt
          obtain ⟨hcc, _⟩ := bcell HB.out
          rw [← hcc _ _ hb0] at a0 a1 a2
          clear hcc
          have hsn := cutR_snoc xs k hlt
          generalize xs[k] = x at a0 a1 a2 hs hsn
          obtain ⟨k1, n1, s1⟩ := x
          simp only at a0 a1 a2 hs hsn
          have SN := Lib.hid hsn
          clear hsn
          go_wp2_with fail
          refine (val_any k1 n1 s1 _ hs).mono ?_
          rintro e w2 ⟨rfl, hb2⟩
          have HO2 := Lib.hid (owns_on HO.out hb2)
          have HB2 := Lib.hid (HB.out.trans (hb2.mono HB.out.size))
          clear hb2
          have hsz2 : w.heap.size ≤ w2.heap.size := HB2.out.size
          go_wp2_with (at_builtin; refine wpList_append_own _ rfl _ _ 33 rfl w.heap.size 23 i0 _ 3 32 Tryd.underlying33 hi hz0 hz1 hz2 rfl (by decide) _ _ _ rfl (HO2.out.alloc _) ⟨w2.heap.size, 0, none⟩ 1 1 [.int .i64 k1, .int .i64 n1, .string (cutB 20 s1)] rfl rfl ?c1 ?c2 ?c3 ?c4 ?c5 ?_)
          case c1 => exact World.news_of_block (heap_alloc_new w2 _)
          case c2 => simp [Value.oneCell']
          case c3 => unfold maxLen; omega
          case c4 => omega
          case c5 => simp; omega
          intro v' w3 hown' hgrow _
          have hb3 : Below w.heap.size w w3 := (HB2.out.alloc HB2.out.size _).grown hgrow (by simp; omega) (owns_block HO2.out)
          rw [← SN.out] at hown'
          have HO3 := Lib.hid hown'
          have HB3 := Lib.hid hb3
          clear hown' hgrow hb3
          go_wp2_with fail
          exact ⟨⟨k + 1, by omega, by omega, by go_num, HO3.out, HB3.out⟩, by simp [intOf]; omega⟩
        · obtain rfl : k = 6 := by omega
          have RC := Lib.hid (row_cut HO.out hk (.inl rfl))
          go_wp2_with fail
          go_ret
          exact ⟨_, rfl, RC.out, HB.out⟩
      · obtain rfl : k = xs.length := by omega
        have RC := Lib.hid (row_cut HO.out hk (.inr ⟨rfl, hk6⟩))
        go_wp2_with fail
        go_ret
        exact ⟨_, rfl, RC.out, HB.out⟩
end Go.Proofs.YtkgjfedpjbnjkaaDoor
