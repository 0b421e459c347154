/- path.All. -/
import Derived.Test.YtcgceigcegddlaaPJ
namespace Go.Proofs.Ytcgceigcegddlaa
open Go Go.RowKit Go.Proofs

/-- What All answers. -/
def AllOf (ts : List T) (tb : ByteArray) (W : World) (e : Ending) (w' : World) : Prop := ∃ p m c vs qs, e = .returned (.slice p m c) ∧ m = qs.length ∧ IsAll ts tb qs ∧ PR W.heap.size (.slice p m c) vs qs w' ∧ Below W.heap.size W w'
set_option maxRecDepth 100000 in
set_option maxHeartbeats 1000000 in
theorem pall_any {ts : List T} {pv : Value} {tb : ByteArray} {W : World} (hf : AllFew ts) (hN : Nice ts) (hs : SchP W pv ts) : Calls Try.prog 19 #[pv, .string tb] W (AllOf ts tb W) := by
  have hw := ways_any hf hN 4 tb [] _ W rfl hs (Wd.nil W)
  have HN := Lib.hid hN
  clear hf hN hs
  go_enter Try.func19, Try.ntmps19
  go_upto_region 2 with (go_at_call 36; (with_reducible refine hw.mono ?_); rintro e w1 ⟨p, m, c, vs, rfl, hm, hP, hb⟩; have HM := Lib.hid hm; clear hm)
  have hlen := ways_len HN.out 4 tb []
  have hmany := manyW_le 4 (by omega)
  have hs := sort_any hP (by omega) (nodup_ways HN.out 4 tb [])
  have H1 := Lib.hid (And.intro HM.out (And.intro hP hb))
  clear hw hP hb hlen hmany
  go_wp2_with (go_at_call 37; (with_reducible refine hs.mono ?_); rintro e w2 ⟨rfl, us, qs, hP2, hpm, hpw, hg⟩)
  go_ret
  have hb2 := below_row H1.out.2.1.row hg (Nat.le_refl _) H1.out.2.2.size
  exact ⟨_, _, _, us, qs, rfl, by rw [H1.out.1, hpm.length_eq], ⟨hpw, hpm⟩, hP2, H1.out.2.2.trans hb2⟩
end Go.Proofs.Ytcgceigcegddlaa
