/- The walk of ValNames. -/
import Derived.Test.YtkgjfedpjbnjkaaDoorO
namespace Go.Proofs.YtkgjfedpjbnjkaaDoor
open Go Go.RowKit

set_option maxHeartbeats 1000000 in
theorem valNames_walk (s : ByteArray) (hs : s.size ≤ maxLen) (w : World) (ht : TabAt w) :
    Calls Tryd.prog 7 #[.string s] w fun e w' => e = .returned (.bool true) ∧ Below w.heap.size w w' := by
  have HT := Lib.hid ht
  clear ht
  have hc : (cutB 20 s).size ≤ maxLen := Nat.le_trans (cutB_le 20 s) (by decide)
  go_enter Tryd.func7, Tryd.ntmps7
  go_wp2_with fail
  refine (begun_any _ HT.out).mono ?_
  rintro e w1 ⟨rfl, hb1⟩
  have HB1 := Lib.hid hb1
  clear hb1
  go_wp2_with fail
  refine (cut_any _ _ _ hs (by omega) (by omega)).mono ?_
  rintro e w2 ⟨rfl, rfl⟩
  rw [show (20 : Int).toNat = 20 from rfl]
  generalize cutB 20 s = c at hc
  go_wp2_with fail
  refine (name_any _ _ hc).mono ?_
  rintro e w2 ⟨rfl, rfl⟩
  go_wp2_with fail
  refine (refName_any _ _ hc).mono ?_
  rintro e w2 ⟨rfl, hb2⟩
  have HB2 := Lib.hid (HB1.out.trans (hb2.mono HB1.out.size))
  clear hb2
  go_wp2_with fail
  go_ret
  exact ⟨ret_bool (by simp), HB2.out⟩
end Go.Proofs.YtkgjfedpjbnjkaaDoor
