/- The laws' first check. -/
import Derived.Test.YtffpmmphpdkkbaaGreatMTQ
namespace Go.Proofs.YtffpmmphpdkkbaaGreat
open Go Go.RowKit Go.Proofs Co Co.S
abbrev bx : ByteArray := ⟨#[120]⟩
abbrev by' : ByteArray := ⟨#[121]⟩
abbrev bz : ByteArray := ⟨#[122]⟩
abbrev bzone : ByteArray := ⟨#[122, 111, 110, 101]⟩
abbrev bcity : ByteArray := ⟨#[99, 105, 116, 121]⟩
abbrev bshop : ByteArray := ⟨#[115, 104, 111, 112]⟩
abbrev A4 : List R1 := [(1, [(1, 8, e0), (2, 0, by'), (2, 0, bz), z3])]
theorem words1 : ∀ s, s ∈ [wd by'] ↔ ∃ a ∈ A4, ∃ y, a.2[1]? = some y ∧ y.1 = 2 ∧ wd y.2.2 = s := fun s => ⟨fun h => ⟨_, List.mem_singleton.2 rfl, _, rfl, rfl, (List.mem_singleton.1 h).symm⟩, fun ⟨a, ha, y, hy, _, he⟩ => by
  obtain rfl := List.mem_singleton.1 ha
  cases hy
  rw [← he]
  exact List.mem_singleton.2 rfl⟩
theorem field_nm (nm key : ByteArray) (a b : Value) (w : World) : (Instr.field 29 (.agg #[.string nm, a, .string key, b]) 0).run Tryz.prog w = .ok (.string nm) w := by kernel_rfl
theorem small_row {l : List T3} (h : ∀ x ∈ l, x.2.2.size ≤ 12) : ∀ x ∈ l, x.2.2.size ≤ maxLen := fun x hx => Nat.le_trans (h x hx) (by unfold maxLen; omega)
set_option maxRecDepth 100000 in
set_option maxHeartbeats 4000000 in
theorem begun_any (W : World) : Calls Tryz.prog 7 #[] W fun e w' => e = .returned (.bool true) ∧ Below W.heap.size W w' := by
  have hshop := shop_any W
  go_enter Tryz.func7, Tryz.ntmps7
  go_upto_region 11 with (first
    | (go_at_call 9; (with_reducible refine hshop.mono ?_); rintro e w1 ⟨cv, dv, rfl, hT, hb1⟩; have hnew := st_new hT hb1; clear hshop hT hb1)
    | (go_at_call 8; (with_reducible refine hnew.mono ?_); rintro e w2 ⟨tb, rfl, S2⟩; have hrow1 := row_any 7 bx w2; have S2 := Lib.hid S2; clear hnew)
    | (go_at_call 21; (with_reducible refine hrow1.mono ?_); rintro e w3 ⟨rfl, hr, hb3⟩; have hins1 : Calls Tryz.prog 14 #[(Value.pointer (some ⟨tb, 0, none⟩)), .slice (some ⟨w2.heap.size, 0, none⟩) 4 4] w3 fun e w' => e = .returned (.tuple #[.int .i64 0, .int .i64 0]) ∧ St W w' tb 1 [(0, rowL 7 bx)] := st_ins S2.out hb3 hr (by decide) (small_row (by decide)) (by decide); clear hrow1 hr hb3)
    | (go_at_call 14; (with_reducible refine hins1.mono ?_); rintro e w4 ⟨rfl, S4⟩; have hrow2 := row_any 8 by' w4; have S4 := Lib.hid S4; clear hins1 S2)
    | (go_at_call 21; (with_reducible refine hrow2.mono ?_); rintro e w5 ⟨rfl, hr, hb3⟩; have hins2 : Calls Tryz.prog 14 #[(Value.pointer (some ⟨tb, 0, none⟩)), .slice (some ⟨w4.heap.size, 0, none⟩) 4 4] w5 fun e w' => e = .returned (.tuple #[.int .i64 1, .int .i64 0]) ∧ St W w' tb 2 [(0, rowL 7 bx), (1, rowL 8 by')] := st_ins S4.out hb3 hr (by decide) (small_row (by decide)) (by decide); clear hrow2 hr hb3)
    | (go_at_call 14; (with_reducible refine hins2.mono ?_); rintro e w6 ⟨rfl, S6⟩; have hins3 := st_insnil S6 (by decide); clear hins2 S4 S6)
    | (go_at_call 14; (with_reducible refine hins3.mono ?_); rintro e w7 ⟨rfl, S7⟩; have hdel : Calls Tryz.prog 16 #[(Value.pointer (some ⟨tb, 0, none⟩)), .int .i64 0] w7 fun e w' => e = .returned (.bool true) ∧ St W w' tb 2 [(1, rowL 8 by')] := st_del S7 (a := (0, rowL 7 bx)) (by simp) (by decide); clear hins3 S7)
    | (go_at_call 16; (with_reducible refine hdel.mono ?_); rintro e w8 ⟨rfl, S8⟩; have hset : Calls Tryz.prog 18 #[(Value.pointer (some ⟨tb, 0, none⟩)), .int .i64 1, .string bzone, (Value.agg #[Value.int .i64 (2), Value.int .i64 (0), Value.string (bz)])] w8 fun e w' => e = .returned (.int .i64 0) ∧ St W w' tb 2 A4 := st_set S8 (a := (1, rowL 8 by')) (by simp) (by decide) (j := 2) (by decide) (by decide) 2 0 bz (by decide) (by decide); clear hdel S8)
    | (go_at_call 18; (with_reducible refine hset.mono ?_); rintro e w9 ⟨rfl, S9⟩; have hrow9 : Calls Tryz.prog 23 #[(Value.pointer (some ⟨tb, 0, none⟩)), .int .i64 1] w9 _ := st_row S9 (a := (1, [(1, 8, e0), (2, 0, by'), (2, 0, bz), z3])) (by simp); have S9 := Lib.hid S9; clear hset)
    | (go_at_call 23; (with_reducible refine hrow9.mono ?_); rintro e w10 ⟨g, c, rfl, _, hb10⟩; have S10 := S9.out.later hb10; have hget : Calls Tryz.prog 27 #[(Value.pointer (some ⟨tb, 0, none⟩)), .int .i64 1, .string bzone] w10 fun e w' => e = .returned (.tuple #[(Value.agg #[Value.int .i64 (2), Value.int .i64 (0), Value.string (bz)]), .bool true]) ∧ Below w10.heap.size w10 w' := st_get S10 (a := (1, [(1, 8, e0), (2, 0, by'), (2, 0, bz), z3])) (by simp) (k := 2) (by decide) (by decide) (u := (2, 0, bz)) rfl; have S10 := Lib.hid S10; clear hrow9 hb10 S9)
    | (go_at_call 27; (with_reducible refine hget.mono ?_); rintro e w11 ⟨rfl, hb11⟩; have S11 := Lib.hid (S10.out.later hb11); clear hget hb11 S10))
  have S12 := S11.out.later (below_alloc w11 (.cells #[.int .i64 2, .int .i64 0, .string bz] 53))
  have hV := heap_alloc_new w11 (.cells #[.int .i64 2, .int .i64 0, .string bz] 53)
  obtain ⟨w12, hw12⟩ : ∃ w12, w11.alloc (.cells #[.int .i64 2, .int .i64 0, .string bz] 53) = w12 := ⟨_, rfl⟩
  obtain ⟨V, hVe⟩ : ∃ V, w11.heap.size = V := ⟨_, rfl⟩
  rw [hw12] at S12 hV ⊢
  rw [hVe] at hV ⊢
  clear hw12 hVe S11
  have hcopy := st_copy S12 (by decide)
  have S12 := Lib.hid S12
  have hV := Lib.hid hV
  go_wp2_with (first
    | (go_at_call 10; (with_reducible refine hcopy.mono ?_); rintro e w13 ⟨ob, rfl, O13, hb13⟩; have S13 := S12.out.later hb13; have HV13 := heap_on hb13 hV.out; have v2 := nd_cell HV13 2; have hn1 : Calls Tryz.prog 30 #[(Value.pointer (some ⟨tb, 0, none⟩))] w13 fun e w' => e = .returned (.int .i64 2) ∧ w' = w13 := st_next S13; have hn2 : Calls Tryz.prog 30 #[(Value.pointer (some ⟨ob, 0, none⟩))] w13 fun e w' => e = .returned (.int .i64 2) ∧ w' = w13 := st_next O13; have hlive := st_live S13; have S13 := Lib.hid S13; have O13 := Lib.hid O13; clear hcopy S12 hb13 HV13)
    | (go_at_call 30; (with_reducible refine hn1.mono ?_); rintro e w14 ⟨rfl, hw⟩; subst w14; clear hn1)
    | (go_at_call 28; (with_reducible refine hlive.mono ?_); rintro e w15 ⟨p, n, cc, rfl, hb15, hcount⟩; have hcount : Calls Tryz.prog 29 #[.agg #[.slice p n cc]] w15 fun e w2 => e = .returned (.int .i64 1) ∧ Below w15.heap.size w15 w2 := hcount; have S15 := Lib.hid (S13.out.later hb15); have O15 := Lib.hid (O13.out.later hb15); clear hlive hb15)
    | (go_at_call 29; (with_reducible refine hcount.mono ?_); rintro e w16 ⟨rfl, hb16⟩; have S16 := Lib.hid (S15.out.later hb16); have O16 := Lib.hid (O15.out.later hb16); have hwords : Calls Tryz.prog 31 #[(Value.pointer (some ⟨tb, 0, none⟩)), .string bcity] w16 fun e w' => e = .returned (.int .i64 1) ∧ Below w16.heap.size w16 w' := st_words S16.out (k := 1) (by decide) (by decide) [wd by'] (by simp) words1; clear hcount hb16)
    | (go_at_call 31; (with_reducible refine hwords.mono ?_); rintro e w17 ⟨rfl, hb17⟩; have S17 := S16.out.later hb17; have hn3 : Calls Tryz.prog 30 #[(Value.pointer (some ⟨ob, 0, none⟩))] w17 fun e w' => e = .returned (.int .i64 2) ∧ w' = w17 := st_next (O16.out.later hb17); have hform := st_form S17; have S17 := Lib.hid S17; clear hwords hb17)
    | (go_at_call 30; (with_reducible refine hn3.mono ?_); rintro e w18 ⟨rfl, hw⟩; subst w18; clear hn3)
    | (go_at_call 24; (with_reducible refine hform.mono ?_); rintro e w19 ⟨p1, c1, p2, c2, ps, rfl, _, hb19⟩; have S19 := Lib.hid (S17.out.later hb19); have hnm : tShop.nm = bshop := rfl; rw [hnm]; have hfd := field_nm bshop tShop.key (.slice p1 4 c1) (.slice p2 1 c2) w19; clear hform hb19))
  go_ret
  exact ⟨rfl, S19.out.bel⟩
end Go.Proofs.YtffpmmphpdkkbaaGreat
