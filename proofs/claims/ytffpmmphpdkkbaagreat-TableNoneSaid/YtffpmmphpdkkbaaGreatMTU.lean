/- No table. -/
import Derived.Test.YtffpmmphpdkkbaaGreatMTT
namespace Go.Proofs.YtffpmmphpdkkbaaGreat
open Go Go.RowKit Go.Proofs Co Co.S
abbrev bid : ByteArray := ⟨#[105, 100]⟩
theorem none_count {w : World} {v : Value} (h : Vm w v (fun _ => false)) : Calls Tryz.prog 29 #[.agg #[v]] w fun e w2 => e = .returned (.int .i64 0) ∧ Below w.heap.size w w2 := by
  have hc := vcount h
  obtain ⟨l, _, k1, k2⟩ := h
  have hl : elems (fun _ : Int => false) = [] := by
    rw [List.eq_nil_iff_forall_not_mem]
    intro x hx
    rw [mem_elems] at hx
    simp at hx
  rw [hl] at hc
  exact hc
set_option maxRecDepth 100000 in
set_option maxHeartbeats 4000000 in
theorem none_law (W : World) : Calls Tryz.prog 5 #[] W fun e w' => e = .returned (.bool true) ∧ Below W.heap.size W w' := by
  have hrow := row_any 1 bx W
  go_enter Tryz.func5, Tryz.ntmps5
  go_upto_region 5 with (first
    | (go_at_call 21; (with_reducible refine hrow.mono ?_); rintro e w1 ⟨rfl, _, hb1⟩; have hi := tb_ins_nil (.slice (some ⟨W.heap.size, 0, none⟩) 4 4) w1; have B1 := Lib.hid hb1; clear hrow hb1)
    | (go_at_call 14; (with_reducible refine hi.mono ?_); rintro e w2 ⟨rfl, hw⟩; subst w2; have hr := trow_nil 0 w1; clear hi)
    | (go_at_call 23; (with_reducible refine hr.mono ?_); rintro e w2 ⟨rfl, hw⟩; subst w2; have hg := tget_nil 0 bid w1; clear hr)
    | (go_at_call 27; (with_reducible refine hg.mono ?_); rintro e w2 ⟨rfl, hb2⟩; have B2 := Lib.hid (below_on B1.out hb2); clear hg hb2 B1))
  have hb3 := below_on B2.out (below_alloc w2 (.cells #[.int .i64 0, .int .i64 0, .string ⟨#[]⟩] 53))
  obtain ⟨w3, hw3⟩ : ∃ w3, w2.alloc (.cells #[.int .i64 0, .int .i64 0, .string ⟨#[]⟩] 53) = w3 := ⟨_, rfl⟩
  rw [hw3] at hb3 ⊢
  have B3 := Lib.hid hb3
  have hbeg := begun_any w3
  clear hw3 hb3 B2
  go_wp2_with (first
    | (go_at_call 7; (with_reducible refine hbeg.mono ?_); rintro e w4 ⟨rfl, hb4⟩; have B4 := Lib.hid (below_on B3.out hb4); have hd := tb_del_nil 0 w4; have hs := tb_set_nil 0 bid 0 0 ⟨#[]⟩ w4; clear hbeg hb4 B3)
    | (go_at_call 16; (with_reducible refine hd.mono ?_); rintro e w5 ⟨rfl, hw⟩; subst w5; clear hd)
    | (go_at_call 18; (with_reducible refine hs.mono ?_); rintro e w6 ⟨rfl, hb6⟩; have B6 := Lib.hid (below_on B4.out hb6); have hl := tlive_nil w6; clear hs hb6 B4)
    | (go_at_call 28; (with_reducible refine hl.mono ?_); rintro e w7 ⟨p, n, c, rfl, hv7, hb7⟩; have B7 := Lib.hid (below_on B6.out hb7); have hc := none_count hv7; clear hl hv7 hb7 B6)
    | (go_at_call 29; (with_reducible refine hc.mono ?_); rintro e w8 ⟨rfl, hb8⟩; have B8 := Lib.hid (below_on B7.out hb8); have hn := tnext_nil w8; have hw := twords_nil bid w8; clear hc hb8 B7)
    | (go_at_call 30; (with_reducible refine hn.mono ?_); rintro e w9 ⟨rfl, hw'⟩; subst w9; clear hn)
    | (go_at_call 31; (with_reducible refine hw.mono ?_); rintro e w10 ⟨rfl, hb10⟩; have B10 := Lib.hid (below_on B8.out hb10); have hcp := tcopy_nil w10; clear hw hb10 B8)
    | (go_at_call 10; (with_reducible refine hcp.mono ?_); rintro e w11 ⟨rfl, hb11⟩; have B11 := Lib.hid (below_on B10.out hb11); clear hcp hb11 B10))
  go_ret
  exact ⟨rfl, B11.out⟩
end Go.Proofs.YtffpmmphpdkkbaaGreat
