/- Contracts: the reference's Word and Name. -/
import Derived.Test.YtkgjfedpjbnjkaaDoorG
namespace Go.Proofs.YtkgjfedpjbnjkaaDoor
open Go Go.RowKit

theorem kw_at (k : Nat) (l : List UInt8) (hk : k < 38) (h : (kws.getD k [] == l) = true) : true = kwB l := by
  have hk' : k < kws.length := hk
  have e : kws.getD k [] = kws[k] := by rw [List.getD_eq_getElem?_getD, List.getElem?_eq_getElem hk']; rfl
  rw [e] at h
  have h' : kws[k] = l := by simpa using h
  unfold kwB
  rw [eq_comm, List.any_eq_true]
  exact ⟨kws[k], List.getElem_mem _, by simp [h']⟩
theorem kw_none (l : List UInt8) (h : ∀ j, j < 38 → (kws.getD j [] == l) = false) : false = kwB l := by
  unfold kwB
  rw [eq_comm, List.any_eq_false]
  intro x hx hne
  obtain ⟨j, hj, rfl⟩ := List.getElem_of_mem hx
  have := h j hj
  rw [List.getD_eq_getElem?_getD, List.getElem?_eq_getElem hj] at this
  have h2 : l = kws[j] := by simpa using hne
  simp [h2] at this

def kwCells : Array Value := (kws.map fun l => Value.string ⟨l.toArray⟩).toArray
theorem kwCells_at (k : Nat) (hk : k < 38) : kwCells[k]? = some (.string ⟨(kws.getD k []).toArray⟩) := by
  have hk' : k < kws.length := hk
  unfold kwCells
  rw [List.getElem?_toArray, List.getElem?_map, List.getD_eq_getElem?_getD, List.getElem?_eq_getElem hk']
  rfl

set_option maxRecDepth 100000 in
set_option maxHeartbeats 1000000 in
theorem word_any (s : ByteArray) (w : World) :
    Calls Tryd.prog 43 #[.string s] w fun e w' => e = .returned (.bool (kwB s.data.toList)) ∧ Below w.heap.size w w' := by
  rw [← ByteArray.toList_eq]
  go_enter Tryd.func43, Tryd.ntmps43
  go_wp2
  generalize hW : w.alloc (Obj.cells #[Value.string { data := #[116, 97, 98, 108, 101] }, Value.string { data := #[107, 101, 121] }, Value.string { data := #[102, 100] }, Value.string { data := #[105, 110, 116] }, Value.string { data := #[116, 101, 120, 116] }, Value.string { data := #[109, 117, 115, 116] }, Value.string { data := #[116, 111] }, Value.string { data := #[108, 111, 97, 100] }, Value.string { data := #[105, 110, 115, 101, 114, 116] }, Value.string { data := #[100, 101, 108, 101, 116, 101] }, Value.string { data := #[117, 112, 100, 97, 116, 101] }, Value.string { data := #[115, 117, 109, 109, 97, 114, 121] }, Value.string { data := #[111, 110] }, Value.string { data := #[98, 121] }, Value.string { data := #[107, 101, 101, 112] }, Value.string { data := #[100, 114, 111, 112] }, Value.string { data := #[102, 114, 111, 109] }, Value.string { data := #[119, 104, 101, 114, 101] }, Value.string { data := #[97, 110, 100] }, Value.string { data := #[105, 115] }, Value.string { data := #[110, 111, 116] }, Value.string { data := #[110, 117, 108, 108] }, Value.string { data := #[114, 111, 108, 108, 117, 112] }, Value.string { data := #[99, 117, 98, 101] }, Value.string { data := #[115, 104, 111, 119] }, Value.string { data := #[104, 97, 118, 105, 110, 103] }, Value.string { data := #[111, 114, 100, 101, 114] }, Value.string { data := #[100, 101, 115, 99] }, Value.string { data := #[108, 105, 109, 105, 116] }, Value.string { data := #[117, 115, 105, 110, 103] }, Value.string { data := #[98, 97, 115, 101] }, Value.string { data := #[99, 111, 117, 110, 116] }, Value.string { data := #[115, 117, 109] }, Value.string { data := #[109, 105, 110] }, Value.string { data := #[109, 97, 120] }, Value.string { data := #[97, 118, 103] }, Value.string { data := #[100, 105, 115, 116, 105, 110, 99, 116] }, Value.string { data := #[114, 111, 119, 115] }] 9) = W
  have hb : Below w.heap.size w W := by rw [← hW]; exact below_alloc1 _ _
  have hc : ∀ k, k < 38 → W.cell? ⟨w.heap.size, k, none⟩ = some (.string ⟨(kws.getD k []).toArray⟩) := by
    intro k hk
    rw [← hW]
    rw [show (Obj.cells #[Value.string { data := #[116, 97, 98, 108, 101] }, Value.string { data := #[107, 101, 121] }, Value.string { data := #[102, 100] }, Value.string { data := #[105, 110, 116] }, Value.string { data := #[116, 101, 120, 116] }, Value.string { data := #[109, 117, 115, 116] }, Value.string { data := #[116, 111] }, Value.string { data := #[108, 111, 97, 100] }, Value.string { data := #[105, 110, 115, 101, 114, 116] }, Value.string { data := #[100, 101, 108, 101, 116, 101] }, Value.string { data := #[117, 112, 100, 97, 116, 101] }, Value.string { data := #[115, 117, 109, 109, 97, 114, 121] }, Value.string { data := #[111, 110] }, Value.string { data := #[98, 121] }, Value.string { data := #[107, 101, 101, 112] }, Value.string { data := #[100, 114, 111, 112] }, Value.string { data := #[102, 114, 111, 109] }, Value.string { data := #[119, 104, 101, 114, 101] }, Value.string { data := #[97, 110, 100] }, Value.string { data := #[105, 115] }, Value.string { data := #[110, 111, 116] }, Value.string { data := #[110, 117, 108, 108] }, Value.string { data := #[114, 111, 108, 108, 117, 112] }, Value.string { data := #[99, 117, 98, 101] }, Value.string { data := #[115, 104, 111, 119] }, Value.string { data := #[104, 97, 118, 105, 110, 103] }, Value.string { data := #[111, 114, 100, 101, 114] }, Value.string { data := #[100, 101, 115, 99] }, Value.string { data := #[108, 105, 109, 105, 116] }, Value.string { data := #[117, 115, 105, 110, 103] }, Value.string { data := #[98, 97, 115, 101] }, Value.string { data := #[99, 111, 117, 110, 116] }, Value.string { data := #[115, 117, 109] }, Value.string { data := #[109, 105, 110] }, Value.string { data := #[109, 97, 120] }, Value.string { data := #[97, 118, 103] }, Value.string { data := #[100, 105, 115, 116, 105, 110, 99, 116] }, Value.string { data := #[114, 111, 119, 115] }] 9) = Obj.cells kwCells 9 from rfl, World.cell?_alloc_mark]
    exact kwCells_at k hk
  have HC := Lib.hid hc
  clear hc hW
  go_loop [4] (fun i => ∃ k : Nat, k ≤ 38 ∧ i = .int .i64 k ∧ ∀ j, j < k → (kws.getD j [] == s.toList) = false) (fun i => 38 - (intOf i).toNat)
  case atStart => exact ⟨0, Nat.zero_le _, rfl, fun j hj => by omega⟩
  case round =>
    obtain ⟨k, hk, rfl, hall⟩ := hrel
    have H := Lib.hid hall
    clear hall
    by_cases hlt : k < 38
    · have hck := HC.out k hlt
      cases hm : kws.getD k [] == s.toList
      · have HM := Lib.hid hm
        have hm2 : (({ data := (kws.getD k []).toArray } : ByteArray).toList == s.toList) = false := by rw [ByteArray.toList_eq]; simpa using hm
        clear hm
        generalize ({ data := (kws.getD k []).toArray } : ByteArray) = kk at hck hm2
        go_wp2
        exact ⟨⟨k + 1, by omega, by go_num, fun j hj => by rcases (by omega : j < k ∨ j = k) with h | rfl; exact H.out j h; exact HM.out⟩, by simp [intOf]; omega⟩
      · have HM := Lib.hid hm
        have hm2 : (({ data := (kws.getD k []).toArray } : ByteArray).toList == s.toList) = true := by rw [ByteArray.toList_eq]; simpa using hm
        clear hm
        generalize ({ data := (kws.getD k []).toArray } : ByteArray) = kk at hck hm2
        go_wp2
        go_ret
        exact ⟨ret_bool (kw_at k _ hlt HM.out), hb⟩
    · obtain rfl : k = 38 := by omega
      go_wp2
      go_ret
      exact ⟨ret_bool (kw_none _ H.out), hb⟩
end Go.Proofs.YtkgjfedpjbnjkaaDoor
