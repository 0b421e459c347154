/- Contracts: names. -/
import Derived.Test.YtmfkkpogmmoflaaGreatH
namespace Go.Proofs.YtmfkkpogmmoflaaGreat
open Go Go.RowKit

theorem take_snoc (s : ByteArray) (k : Nat) (h : k < s.size) : s.data.toList.take (k + 1) = s.data.toList.take k ++ [s[k]] := by
  rw [List.take_succ_eq_append_getElem (by simpa using h)]; rfl
theorem ret_bool {a b : Bool} (h : a = b) : Ending.returned (.bool a) = .returned (.bool b) := by rw [h]
theorem ret_int {a b : Int} (h : a = b) : Ending.returned (Value.int .i64 (a)) = .returned (Value.int .i64 (b)) := by rw [h]

/-- The key words. -/
def kws : List (List UInt8) := [
  [116, 97, 98, 108, 101],
  [107, 101, 121],
  [102, 100],
  [105, 110, 116],
  [116, 101, 120, 116],
  [109, 117, 115, 116],
  [116, 111],
  [108, 111, 97, 100],
  [105, 110, 115, 101, 114, 116],
  [100, 101, 108, 101, 116, 101],
  [117, 112, 100, 97, 116, 101],
  [115, 117, 109, 109, 97, 114, 121],
  [111, 110],
  [98, 121],
  [107, 101, 101, 112],
  [100, 114, 111, 112],
  [102, 114, 111, 109],
  [119, 104, 101, 114, 101],
  [97, 110, 100],
  [105, 115],
  [110, 111, 116],
  [110, 117, 108, 108],
  [114, 111, 108, 108, 117, 112],
  [99, 117, 98, 101],
  [115, 104, 111, 119],
  [104, 97, 118, 105, 110, 103],
  [111, 114, 100, 101, 114],
  [100, 101, 115, 99],
  [108, 105, 109, 105, 116],
  [117, 115, 105, 110, 103],
  [98, 97, 115, 101],
  [99, 111, 117, 110, 116],
  [115, 117, 109],
  [109, 105, 110],
  [109, 97, 120],
  [97, 118, 103],
  [100, 105, 115, 116, 105, 110, 99, 116],
  [114, 111, 119, 115]]
def kwB (l : List UInt8) : Bool := kws.any (fun x => l == x)
def ltr (c : UInt8) : Bool := c.toNat == 95 || (decide (97 ≤ c.toNat) && decide (c.toNat ≤ 122))
def dgt (c : UInt8) : Bool := decide (48 ≤ c.toNat) && decide (c.toNat ≤ 57)
/-- A letter, then letters and digits. -/
def speltB : List UInt8 → Bool
  | [] => false
  | c :: r => ltr c && r.all fun c => ltr c || dgt c
/-- Which words are names. -/
def nameB (l : List UInt8) : Bool := decide (l.length ≤ 12) && speltB l && !kwB l

theorem not_both (c : UInt8) (h : dgt c = true) : ltr c = false := by
  unfold dgt at h; unfold ltr
  simp at h
  simp
  omega

theorem speltB_snoc (l : List UInt8) (c : UInt8) (h : speltB l = true) : speltB (l ++ [c]) = (ltr c || dgt c) := by
  cases l with
  | nil => simp [speltB] at h
  | cons x r =>
    simp only [speltB, Bool.and_eq_true] at h
    simp [speltB, h.1, List.all_append, h.2]

theorem speltB_append_false (l m : List UInt8) (hl : l ≠ []) (h : speltB l = false) : speltB (l ++ m) = false := by
  cases l with
  | nil => exact absurd rfl hl
  | cons x r =>
    simp only [speltB, Bool.and_eq_false_iff, List.cons_append, List.all_append] at h ⊢
    rcases h with h | h
    · exact .inl h
    · exact .inr (.inl h)

/-- At each place a letter, or a digit that is not the first: as far as it goes. -/
theorem speltB_false (l : List UInt8) (k : Nat) (c : UInt8) (hc : l[k]? = some c) (hb : ltr c = false) (hd : dgt c = false ∨ k = 0) : speltB l = false := by
  cases l with
  | nil => simp at hc
  | cons x r =>
    simp only [speltB, Bool.and_eq_false_iff]
    cases k with
    | zero =>
      simp at hc
      subst hc
      exact .inl hb
    | succ k =>
      right
      rw [List.all_eq_false]
      rcases hd with hd | hd
      · have : r[k]? = some c := by simpa using hc
        exact ⟨c, List.mem_of_getElem? this, by simp [hb, hd]⟩
      · omega

/-- What the reference asks, in its order. -/
theorem nameB_ref (l : List UInt8) (h1 : ¬ l.length < 1) (h2 : ¬ 12 < l.length) (c : UInt8) (hc : l[0]? = some c) (h3 : dgt c = false) (h4 : kwB l = false) (h5 : l.all (fun c => ltr c || dgt c) = true) : nameB l = true := by
  cases l with
  | nil => simp at h1
  | cons x r =>
    simp at hc
    subst hc
    simp only [List.all_cons, Bool.and_eq_true, Bool.or_eq_true, h3, Bool.false_eq_true, or_false] at h5
    simp only [nameB, speltB, h4, h5.1, h5.2]
    simp at h2 ⊢
    omega
theorem nameB_no (l : List UInt8) (h : l.length < 1 ∨ 12 < l.length ∨ kwB l = true) : nameB l = false := by
  unfold nameB
  rcases h with h | h | h
  · have : l = [] := List.eq_nil_of_length_eq_zero (by omega)
    subst this; simp [speltB]
  · have : ¬ l.length ≤ 12 := by omega
    simp [this]
  · simp [h]
theorem nameB_digit (l : List UInt8) (c : UInt8) (hc : l[0]? = some c) (h : dgt c = true) : nameB l = false := by
  unfold nameB
  rw [speltB_false l 0 c hc (not_both c h) (.inr rfl)]; simp
theorem nameB_bad (l : List UInt8) (k : Nat) (c : UInt8) (hc : l[k]? = some c) (h1 : ltr c = false) (h2 : dgt c = false) : nameB l = false := by
  unfold nameB
  rw [speltB_false l k c hc h1 (.inl h2)]; simp

theorem kw_yes {l x : List UInt8} (h : (l == x) = true) (hx : x ∈ kws) : true = kwB l := by
  unfold kwB
  rw [eq_comm, List.any_eq_true]
  exact ⟨x, hx, h⟩

set_option maxRecDepth 100000 in
set_option maxHeartbeats 2000000 in
theorem keyWord_any (s : ByteArray) (w : World) :
    Calls Tryz.prog 104 #[.string s] w fun e w' => e = .returned (.bool (kwB s.data.toList)) ∧ w = w' := by
  rw [← ByteArray.toList_eq]
  go_enter Tryz.func104, Tryz.ntmps104
  go_wp2
  all_goals go_ret
  all_goals refine ⟨ret_bool ?_, rfl⟩
  all_goals first
    | exact kw_yes (by assumption) (by decide)
    | (exact absurd (Eq.trans (Eq.symm (by assumption : (_ == _) = true)) (by assumption)) (by decide))
    | (rw [eq_comm]; unfold kwB kws; simp only [List.any_cons, List.any_nil, Bool.or_false, Bool.or_eq_false_iff]; (repeat' apply And.intro) <;> assumption)

theorem ltr_yes {c : UInt8} (h : c.toNat = 95 ∨ (97 ≤ c.toNat ∧ c.toNat ≤ 122)) : ltr c = true := by
  unfold ltr; rcases h with h | h <;> simp <;> omega
theorem ltr_no {c : UInt8} (h : c.toNat ≠ 95) (h2 : c.toNat < 97 ∨ 122 < c.toNat) : ltr c = false := by
  unfold ltr; simp; omega
theorem dgt_yes {c : UInt8} (h : 48 ≤ c.toNat) (h2 : c.toNat ≤ 57) : dgt c = true := by
  unfold dgt; simp; omega
theorem dgt_no {c : UInt8} (h : c.toNat < 48 ∨ 57 < c.toNat) : dgt c = false := by
  unfold dgt; simp; omega
theorem dgt_dec {c : UInt8} (h : ¬ c.toNat < 48) : decide ((c.toNat : Int) ≤ 57) = dgt c := by
  unfold dgt; rw [Bool.eq_iff_iff]; simp; omega
theorem at_k (s : ByteArray) (k : Nat) (h : k < s.size) : s.data.toList[k]? = some s[k] := by
  have h' : k < s.data.size := h
  rw [Array.getElem?_toList, Array.getElem?_eq_getElem h']; rfl
theorem spelt_more (s : ByteArray) (k : Nat) (h : k < s.size) (hr : k = 0 ∨ speltB (s.data.toList.take k) = true) (hc : ltr s[k] = true ∨ (dgt s[k] = true ∧ k ≠ 0)) : k + 1 = 0 ∨ speltB (s.data.toList.take (k + 1)) = true := by
  right
  rw [take_snoc s k h]
  rcases hr with hr | hr
  · subst hr
    rcases hc with hc | hc
    · simp [speltB, hc]
    · exact absurd rfl hc.2
  · rw [speltB_snoc _ _ hr]
    rcases hc with hc | hc
    · simp [hc]
    · simp [hc.1]
theorem spelt_end (s : ByteArray) (hr : s.size = 0 ∨ speltB (s.data.toList.take s.size) = true) : (!s.toList.isEmpty) = speltB s.data.toList := by
  rw [ByteArray.toList_eq]
  rw [List.take_of_length_le (by simp)] at hr
  rcases hr with hr | hr
  · have : s.data.toList = [] := List.eq_nil_of_length_eq_zero (by simpa using hr)
    rw [this]; rfl
  · cases h : s.data.toList with
    | nil => rw [h] at hr; simp [speltB] at hr
    | cons a b => rw [h] at hr; rw [hr]; rfl

set_option maxHeartbeats 1000000 in
theorem spelled_any (s : ByteArray) (w : World) (hs : s.size ≤ maxLen) :
    Calls Tryz.prog 103 #[.string s] w fun e w' => e = .returned (.bool (speltB s.data.toList)) ∧ w = w' := by
  unfold maxLen at hs
  go_enter Tryz.func103, Tryz.ntmps103
  go_wp2
  go_loop [3] (fun i => ∃ k : Nat, k ≤ s.size ∧ i = .int .i64 k ∧ (k = 0 ∨ speltB (s.data.toList.take k) = true)) (fun i => s.size - (intOf i).toNat)
  case atStart => exact ⟨0, Nat.zero_le _, rfl, .inl rfl⟩
  case round =>
    obtain ⟨k, hk, rfl, hall⟩ := hrel
    have H := Lib.hid hall
    clear hall
    by_cases hlt : k < s.size
    · have bad : ltr s[k] = false → (dgt s[k] = false ∨ k = 0) → false = speltB s.data.toList := fun h1 h2 => (speltB_false _ k _ (at_k s k hlt) h1 h2).symm
      have BAD := Lib.hid bad
      clear bad
      by_cases c1 : s[k].toNat < 48
      · have e1 : ((s[k].toNat : Int) == 95) = false := beq_eq_false_iff_ne.2 (by omega)
        go_wp2
        go_ret
        exact ⟨ret_bool (BAD.out (ltr_no (by omega) (by omega)) (.inl (dgt_no (by omega)))), rfl⟩
      by_cases c2 : s[k].toNat ≤ 57
      · have e1 : ((s[k].toNat : Int) == 95) = false := beq_eq_false_iff_ne.2 (by omega)
        by_cases k0 : k = 0
        · subst k0
          go_wp2
          go_ret
          exact ⟨ret_bool (BAD.out (ltr_no (by omega) (by omega)) (.inr (by trivial))), rfl⟩
        · have e2 : ((k : Int) == 0) = false := beq_eq_false_iff_ne.2 (by omega)
          go_wp2
          exact ⟨⟨k + 1, by omega, by go_num, spelt_more s k hlt H.out (.inr ⟨dgt_yes (by omega) (by omega), k0⟩)⟩, by simp [intOf]; omega⟩
      by_cases c3 : s[k].toNat < 95
      · have e1 : ((s[k].toNat : Int) == 95) = false := beq_eq_false_iff_ne.2 (by omega)
        go_wp2
        go_ret
        exact ⟨ret_bool (BAD.out (ltr_no (by omega) (by omega)) (.inl (dgt_no (by omega)))), rfl⟩
      by_cases c4 : s[k].toNat = 95
      · have e1 : ((s[k].toNat : Int) == 95) = true := beq_iff_eq.2 (by omega)
        have C4 := Lib.hid c4
        have c5 : s[k].toNat < 97 := by omega
        clear c4
        go_wp2
        exact ⟨⟨k + 1, by omega, by go_num, spelt_more s k hlt H.out (.inl (ltr_yes (.inl C4.out)))⟩, by simp [intOf]; omega⟩
      have e1 : ((s[k].toNat : Int) == 95) = false := beq_eq_false_iff_ne.2 (by omega)
      by_cases c5 : s[k].toNat < 97
      · go_wp2
        go_ret
        exact ⟨ret_bool (BAD.out (ltr_no (by omega) (by omega)) (.inl (dgt_no (by omega)))), rfl⟩
      by_cases c6 : s[k].toNat ≤ 122
      · go_wp2
        exact ⟨⟨k + 1, by omega, by go_num, spelt_more s k hlt H.out (.inl (ltr_yes (.inr ⟨by omega, by omega⟩)))⟩, by simp [intOf]; omega⟩
      · have d6 : decide ((s[k].toNat : Int) ≤ 122) = false := decide_eq_false (by omega)
        go_wp2
        go_ret
        exact ⟨ret_bool (BAD.out (ltr_no (by omega) (by omega)) (.inl (dgt_no (by omega)))), rfl⟩
    · obtain rfl : k = s.size := by omega
      go_wp2
      go_ret
      exact ⟨ret_bool (spelt_end s H.out), rfl⟩

theorem name_any (s : ByteArray) (w : World) (hs : s.size ≤ maxLen) :
    Calls Tryz.prog 83 #[.string s] w fun e w' => e = .returned (.bool (nameB s.data.toList)) ∧ w = w' := by
  have hl : s.data.toList.length = s.size := by simp
  have HL := Lib.hid hl
  clear hl
  by_cases h12 : s.size ≤ 12
  · by_cases hsp : speltB s.data.toList = true
    · go_enter Tryz.func83, Tryz.ntmps83
      go_wp2_with (first
        | (go_at_call 103; refine (spelled_any _ _ hs).mono ?_; rintro e w' ⟨rfl, rfl⟩)
        | (go_at_call 104; refine (keyWord_any _ _).mono ?_; rintro e w' ⟨rfl, rfl⟩))
      go_ret
      exact ⟨ret_bool (by unfold nameB; rw [hsp, HL.out]; simp [h12]), rfl⟩
    · have hsp' : speltB s.data.toList = false := by simpa using hsp
      go_enter Tryz.func83, Tryz.ntmps83
      go_wp2_with (first
        | (go_at_call 103; refine (spelled_any _ _ hs).mono ?_; rintro e w' ⟨rfl, rfl⟩)
        | (go_at_call 104; refine (keyWord_any _ _).mono ?_; rintro e w' ⟨rfl, rfl⟩))
      go_ret
      exact ⟨ret_bool (by unfold nameB; rw [hsp']; simp), rfl⟩
  · go_enter Tryz.func83, Tryz.ntmps83
    go_wp2
    go_ret
    exact ⟨ret_bool (by unfold nameB; rw [HL.out]; simp [h12]), rfl⟩

theorem letter_any (c : UInt8) (w : World) :
    Calls Tryz.prog 90 #[.int .u8 (c.toNat : Int)] w fun e w' => e = .returned (.bool (ltr c)) ∧ w = w' := by
  by_cases h1 : c.toNat = 95
  · have e1 : ((c.toNat : Int) == 95) = true := beq_iff_eq.2 (by omega)
    have H := Lib.hid h1
    clear h1
    go_enter Tryz.func90, Tryz.ntmps90
    go_wp2
    go_ret
    exact ⟨ret_bool (ltr_yes (.inl H.out)).symm, rfl⟩
  have e1 : ((c.toNat : Int) == 95) = false := beq_eq_false_iff_ne.2 (by omega)
  by_cases h2 : c.toNat < 97
  · go_enter Tryz.func90, Tryz.ntmps90
    go_wp2
    go_ret
    exact ⟨ret_bool (ltr_no h1 (.inl h2)).symm, rfl⟩
  by_cases h3 : c.toNat ≤ 122
  · go_enter Tryz.func90, Tryz.ntmps90
    go_wp2
    go_ret
    exact ⟨ret_bool (by rw [ltr_yes (.inr ⟨by omega, h3⟩)]; simp; omega), rfl⟩
  · go_enter Tryz.func90, Tryz.ntmps90
    go_wp2
    go_ret
    exact ⟨ret_bool (by rw [ltr_no h1 (.inr (by omega))]; simp; omega), rfl⟩

theorem digit_any (c : UInt8) (w : World) :
    Calls Tryz.prog 88 #[.int .u8 (c.toNat : Int)] w fun e w' => e = .returned (.bool (dgt c)) ∧ w = w' := by
  by_cases h2 : c.toNat < 48
  · go_enter Tryz.func88, Tryz.ntmps88
    go_wp2
    go_ret
    exact ⟨ret_bool (dgt_no (.inl h2)).symm, rfl⟩
  · go_enter Tryz.func88, Tryz.ntmps88
    go_wp2
    go_ret
    exact ⟨ret_bool (dgt_dec h2), rfl⟩

theorem kw_at (k : Nat) (l : List UInt8) (hk : k < 38) (h : (kws.getD k [] == l) = true) : true = kwB l := by
  have hk' : k < kws.length := hk
  have e : kws.getD k [] = kws[k] := by rw [List.getD_eq_getElem?_getD, List.getElem?_eq_getElem hk']; rfl
  rw [e] at h
  have h' : kws[k] = l := by simpa using h
  unfold kwB
  rw [eq_comm, List.any_eq_true]
  exact ⟨kws[k], List.getElem_mem _, by simp [h']⟩
theorem kw_none (l : List UInt8) (h : ∀ j, j < 38 → (kws.getD j [] == l) = false) : false = kwB l := by
  unfold kwB
  rw [eq_comm, List.any_eq_false]
  intro x hx hne
  obtain ⟨j, hj, rfl⟩ := List.getElem_of_mem hx
  have := h j hj
  rw [List.getD_eq_getElem?_getD, List.getElem?_eq_getElem hj] at this
  have h2 : l = kws[j] := by simpa using hne
  simp [h2] at this

def kwCells : Array Value := (kws.map fun l => Value.string ⟨l.toArray⟩).toArray
theorem kwCells_at (k : Nat) (hk : k < 38) : kwCells[k]? = some (.string ⟨(kws.getD k []).toArray⟩) := by
  have hk' : k < kws.length := hk
  unfold kwCells
  rw [List.getElem?_toArray, List.getElem?_map, List.getD_eq_getElem?_getD, List.getElem?_eq_getElem hk']
  rfl

set_option maxRecDepth 100000 in
set_option maxHeartbeats 1000000 in
theorem word_any (s : ByteArray) (w : World) :
    Calls Tryz.prog 89 #[.string s] w fun e w' => e = .returned (.bool (kwB s.data.toList)) ∧ Below w.heap.size w w' := by
  rw [← ByteArray.toList_eq]
  go_enter Tryz.func89, Tryz.ntmps89
  go_wp2
  generalize hW : w.alloc (Obj.cells #[Value.string { data := #[116, 97, 98, 108, 101] }, Value.string { data := #[107, 101, 121] }, Value.string { data := #[102, 100] }, Value.string { data := #[105, 110, 116] }, Value.string { data := #[116, 101, 120, 116] }, Value.string { data := #[109, 117, 115, 116] }, Value.string { data := #[116, 111] }, Value.string { data := #[108, 111, 97, 100] }, Value.string { data := #[105, 110, 115, 101, 114, 116] }, Value.string { data := #[100, 101, 108, 101, 116, 101] }, Value.string { data := #[117, 112, 100, 97, 116, 101] }, Value.string { data := #[115, 117, 109, 109, 97, 114, 121] }, Value.string { data := #[111, 110] }, Value.string { data := #[98, 121] }, Value.string { data := #[107, 101, 101, 112] }, Value.string { data := #[100, 114, 111, 112] }, Value.string { data := #[102, 114, 111, 109] }, Value.string { data := #[119, 104, 101, 114, 101] }, Value.string { data := #[97, 110, 100] }, Value.string { data := #[105, 115] }, Value.string { data := #[110, 111, 116] }, Value.string { data := #[110, 117, 108, 108] }, Value.string { data := #[114, 111, 108, 108, 117, 112] }, Value.string { data := #[99, 117, 98, 101] }, Value.string { data := #[115, 104, 111, 119] }, Value.string { data := #[104, 97, 118, 105, 110, 103] }, Value.string { data := #[111, 114, 100, 101, 114] }, Value.string { data := #[100, 101, 115, 99] }, Value.string { data := #[108, 105, 109, 105, 116] }, Value.string { data := #[117, 115, 105, 110, 103] }, Value.string { data := #[98, 97, 115, 101] }, Value.string { data := #[99, 111, 117, 110, 116] }, Value.string { data := #[115, 117, 109] }, Value.string { data := #[109, 105, 110] }, Value.string { data := #[109, 97, 120] }, Value.string { data := #[97, 118, 103] }, Value.string { data := #[100, 105, 115, 116, 105, 110, 99, 116] }, Value.string { data := #[114, 111, 119, 115] }] 9) = W
  have hb : Below w.heap.size w W := by rw [← hW]; exact below_alloc _ _
  have hc : ∀ k, k < 38 → W.cell? ⟨w.heap.size, k, none⟩ = some (.string ⟨(kws.getD k []).toArray⟩) := by
    intro k hk
    rw [← hW]
    rw [show (Obj.cells #[Value.string { data := #[116, 97, 98, 108, 101] }, Value.string { data := #[107, 101, 121] }, Value.string { data := #[102, 100] }, Value.string { data := #[105, 110, 116] }, Value.string { data := #[116, 101, 120, 116] }, Value.string { data := #[109, 117, 115, 116] }, Value.string { data := #[116, 111] }, Value.string { data := #[108, 111, 97, 100] }, Value.string { data := #[105, 110, 115, 101, 114, 116] }, Value.string { data := #[100, 101, 108, 101, 116, 101] }, Value.string { data := #[117, 112, 100, 97, 116, 101] }, Value.string { data := #[115, 117, 109, 109, 97, 114, 121] }, Value.string { data := #[111, 110] }, Value.string { data := #[98, 121] }, Value.string { data := #[107, 101, 101, 112] }, Value.string { data := #[100, 114, 111, 112] }, Value.string { data := #[102, 114, 111, 109] }, Value.string { data := #[119, 104, 101, 114, 101] }, Value.string { data := #[97, 110, 100] }, Value.string { data := #[105, 115] }, Value.string { data := #[110, 111, 116] }, Value.string { data := #[110, 117, 108, 108] }, Value.string { data := #[114, 111, 108, 108, 117, 112] }, Value.string { data := #[99, 117, 98, 101] }, Value.string { data := #[115, 104, 111, 119] }, Value.string { data := #[104, 97, 118, 105, 110, 103] }, Value.string { data := #[111, 114, 100, 101, 114] }, Value.string { data := #[100, 101, 115, 99] }, Value.string { data := #[108, 105, 109, 105, 116] }, Value.string { data := #[117, 115, 105, 110, 103] }, Value.string { data := #[98, 97, 115, 101] }, Value.string { data := #[99, 111, 117, 110, 116] }, Value.string { data := #[115, 117, 109] }, Value.string { data := #[109, 105, 110] }, Value.string { data := #[109, 97, 120] }, Value.string { data := #[97, 118, 103] }, Value.string { data := #[100, 105, 115, 116, 105, 110, 99, 116] }, Value.string { data := #[114, 111, 119, 115] }] 9) = Obj.cells kwCells 9 from rfl, World.cell?_alloc_mark]
    exact kwCells_at k hk
  have HC := Lib.hid hc
  clear hc hW
  go_loop [4] (fun i => ∃ k : Nat, k ≤ 38 ∧ i = .int .i64 k ∧ ∀ j, j < k → (kws.getD j [] == s.toList) = false) (fun i => 38 - (intOf i).toNat)
  case atStart => exact ⟨0, Nat.zero_le _, rfl, fun j hj => by omega⟩
  case round =>
    obtain ⟨k, hk, rfl, hall⟩ := hrel
    have H := Lib.hid hall
    clear hall
    by_cases hlt : k < 38
    · have hck := HC.out k hlt
      cases hm : kws.getD k [] == s.toList
      · have HM := Lib.hid hm
        have hm2 : (({ data := (kws.getD k []).toArray } : ByteArray).toList == s.toList) = false := by rw [ByteArray.toList_eq]; simpa using hm
        clear hm
        generalize ({ data := (kws.getD k []).toArray } : ByteArray) = kk at hck hm2
        go_wp2
        exact ⟨⟨k + 1, by omega, by go_num, fun j hj => by rcases (by omega : j < k ∨ j = k) with h | rfl; exact H.out j h; exact HM.out⟩, by simp [intOf]; omega⟩
      · have HM := Lib.hid hm
        have hm2 : (({ data := (kws.getD k []).toArray } : ByteArray).toList == s.toList) = true := by rw [ByteArray.toList_eq]; simpa using hm
        clear hm
        generalize ({ data := (kws.getD k []).toArray } : ByteArray) = kk at hck hm2
        go_wp2
        go_ret
        exact ⟨ret_bool (kw_at k _ hlt HM.out), hb⟩
    · obtain rfl : k = 38 := by omega
      go_wp2
      go_ret
      exact ⟨ret_bool (kw_none _ H.out), hb⟩

def ltrOrDgt (c : UInt8) : Bool := ltr c || dgt c
theorem all_more (s : ByteArray) (k : Nat) (h : k < s.size) (hb : ltrOrDgt s[k] = true) (ha : (s.data.toList.take k).all ltrOrDgt = true) : (s.data.toList.take (k + 1)).all ltrOrDgt = true := by
  rw [take_snoc s k h, List.all_append, ha]; simp [hb]

set_option maxHeartbeats 1000000 in
theorem refName_any (s : ByteArray) (w : World) (hs : s.size ≤ maxLen) :
    Calls Tryz.prog 65 #[.string s] w fun e w' => e = .returned (.bool (nameB s.data.toList)) ∧ Below w.heap.size w w' := by
  unfold maxLen at hs
  have hl : s.data.toList.length = s.size := by simp
  have HL := Lib.hid hl
  clear hl
  by_cases h1 : s.size < 1
  · go_enter Tryz.func65, Tryz.ntmps65
    go_wp2
    go_ret
    exact ⟨ret_bool (nameB_no _ (.inl (by rw [HL.out]; exact h1))).symm, Below.refl _ _⟩
  by_cases h2 : 12 < s.size
  · go_enter Tryz.func65, Tryz.ntmps65
    go_wp2
    go_ret
    exact ⟨ret_bool (nameB_no _ (.inr (.inl (by rw [HL.out]; exact h2)))).symm, Below.refl _ _⟩
  have h0 : 0 < s.size := by omega
  have e0 := at_k s 0 h0
  have E0 := Lib.hid e0
  clear e0
  cases hd : dgt s[0]
  · have HD := Lib.hid hd
    cases hk : kwB s.data.toList
    · have HK := Lib.hid hk
      go_enter Tryz.func65, Tryz.ntmps65
      go_wp2_with (first
        | (go_at_call 88; refine (digit_any _ _).mono ?_; rintro e w' ⟨rfl, rfl⟩)
        | (go_at_call 89; refine (word_any _ _).mono ?_; rintro e w' ⟨rfl, hb⟩))
      rename_i W
      clear hd hk
      go_loop [3] (fun i => ∃ k : Nat, k ≤ s.size ∧ i = .int .i64 k ∧ (s.data.toList.take k).all ltrOrDgt = true) (fun i => s.size - (intOf i).toNat)
      case atStart => exact ⟨0, Nat.zero_le _, rfl, by simp⟩
      case round =>
        obtain ⟨k, hk, rfl, hall⟩ := hrel
        have H := Lib.hid hall
        clear hall
        by_cases hlt : k < s.size
        · cases c1 : ltr s[k]
          · have C1 := Lib.hid c1
            cases c2 : dgt s[k]
            · have C2 := Lib.hid c2
              go_wp2_with (first
                | (go_at_call 90; refine (letter_any _ _).mono ?_; rintro e w' ⟨rfl, rfl⟩)
                | (go_at_call 88; refine (digit_any _ _).mono ?_; rintro e w' ⟨rfl, rfl⟩))
              go_ret
              exact ⟨ret_bool (nameB_bad _ k _ (at_k s k hlt) C1.out C2.out).symm, hb⟩
            · have C2 := Lib.hid c2
              go_wp2_with (first
                | (go_at_call 90; refine (letter_any _ _).mono ?_; rintro e w' ⟨rfl, rfl⟩)
                | (go_at_call 88; refine (digit_any _ _).mono ?_; rintro e w' ⟨rfl, rfl⟩))
              exact ⟨⟨k + 1, by omega, by go_num, all_more s k hlt (by unfold ltrOrDgt; rw [C2.out]; simp) H.out⟩, by simp [intOf]; omega⟩
          · have C1 := Lib.hid c1
            go_wp2_with (first
              | (go_at_call 90; refine (letter_any _ _).mono ?_; rintro e w' ⟨rfl, rfl⟩)
              | (go_at_call 88; refine (digit_any _ _).mono ?_; rintro e w' ⟨rfl, rfl⟩))
            exact ⟨⟨k + 1, by omega, by go_num, all_more s k hlt (by unfold ltrOrDgt; rw [C1.out]; simp) H.out⟩, by simp [intOf]; omega⟩
        · obtain rfl : k = s.size := by omega
          go_wp2
          go_ret
          exact ⟨ret_bool (by
            have ha := H.out
            rw [List.take_of_length_le (by simp)] at ha
            exact (nameB_ref _ (by rw [HL.out]; exact h1) (by rw [HL.out]; exact h2) _ E0.out HD.out HK.out ha).symm), hb⟩
    · have HK := Lib.hid hk
      go_enter Tryz.func65, Tryz.ntmps65
      go_wp2_with (first
        | (go_at_call 88; refine (digit_any _ _).mono ?_; rintro e w' ⟨rfl, rfl⟩)
        | (go_at_call 89; refine (word_any _ _).mono ?_; rintro e w' ⟨rfl, hb⟩))
      go_ret
      exact ⟨ret_bool (nameB_no _ (.inr (.inr HK.out))).symm, hb⟩
  · have HD := Lib.hid hd
    go_enter Tryz.func65, Tryz.ntmps65
    go_wp2_with (first
      | (go_at_call 88; refine (digit_any _ _).mono ?_; rintro e w' ⟨rfl, rfl⟩)
      | (go_at_call 89; refine (word_any _ _).mono ?_; rintro e w' ⟨rfl, hb⟩))
    go_ret
    exact ⟨ret_bool (nameB_digit _ _ E0.out HD.out).symm, Below.refl _ _⟩
end Go.Proofs.YtmfkkpogmmoflaaGreat
