/- mix. -/
import Derived.Test.YtpdidlnbeahanaaQ2
namespace Go.Proofs.Ytpdidlnbeahanaa
open Go Go.RowKit Go.Shelf Go.Proofs

theorem app_all {u : TypeId} (hu : Try.prog.underlying u = some (.slice 3)) (y : World) (base : Nat) {p : Option Addr} {n c : Nat} {xs : List Int} (hn : xs.length = n) (hr : Ro y base (.slice p n c) xs) {q : Option Addr} {m d : Nat} {ys : List Int} (hm : ys.length = m) (hs : Rd y q ys) (hnm : n + m ≤ 1000000) (hb : base ≤ y.heap.size) :
    ∃ p' c' w', (Builtin.append_ #[22, u] 22 #[.slice p n c, .slice q m d]).run Try.prog y = .ok (.slice p' (n + m) c') w' ∧ Ro w' base (.slice p' (n + m) c') (xs ++ ys) ∧ y.grownBy w' (Value.slice p n c).ownBlock := by
  subst hn hm
  obtain ⟨i0, hi0, hz0, hz1, hz2⟩ := info_parts info3
  rw [append_types Try.underlying22 hu]
  rcases List.eq_nil_or_concat ys with rfl | ⟨k, r, e⟩
  · refine ⟨p, c, y, append_zero Try.underlying22 hi0 (by obtain ⟨p2, c2, e, h, _⟩ := HRow.isslice hr; cases e; exact h), by rw [List.append_nil]; exact hr, ⟨rfl, rfl, rfl, Nat.le_refl _, fun _ _ _ => rfl⟩⟩
  · have hpos : 0 < ys.length := by rw [e, List.length_concat]; omega
    obtain ⟨b, off, rfl, _, _⟩ := hs 0 hpos
    obtain ⟨g, cap, w', h1, h2, h3, h4⟩ := run_append_has (P := Try.prog) y base 22 22 3 i0 _ 1 8 Try.underlying22 hi0 hz0 hz1 hz2 rfl (by decide) hr ⟨b, off, none⟩ ys.length d (ys.map iv) (by simp)
      (fun j v hj => by
        rw [List.getElem?_map] at hj
        obtain ⟨x, hx, hv⟩ := Option.map_eq_some_iff.1 hj
        obtain ⟨hjl, hx2⟩ := List.getElem?_eq_some_iff.1 hx
        obtain ⟨b', off', e2, _, c0⟩ := hs j hjl
        cases e2
        have ea : (⟨b, off, none⟩ : Addr).add j = ⟨b, off + j, none⟩ := by
          unfold Addr.add
          split
          · rename_i h; subst h; rfl
          · rfl
        rw [ea, c0, ← hv, hx2]) (by
        intro v hv
        obtain ⟨x, _, rfl⟩ := List.mem_map.1 hv
        rfl) hpos (by unfold maxLen; omega) (by omega) hb
    exact ⟨_, cap, w', h1, by unfold Ro; rw [List.map_append, List.length_append]; exact h2, h3⟩
theorem wpList_append_run2 {P : Program} {w w' : World} {ops : Array Oper} {rest : List Oper} {o : Oper} {a : Act} {Q : Exit → Act → World → Prop} {vs vx v' : Value} (hgd : o.guard = none) (s x : Operand) (t u : TypeId)
    (ho : o.op = .call { callee := .builtin .append, args := #[s, x], argTypes := #[t, u] }) (hs : a.eval s = vs) (hx : a.eval x = vx)
    (hr : (Builtin.append_ #[t, u] o.type #[vs, vx]).run P w = .ok v' w')
    (h : wpList P ops Q rest (a.put o.dst v') w') : wpList P ops Q (o :: rest) a w :=
  wpList_plain hgd fun _ hK => by
    unfold Oper.wp execOp
    simp only [ho, resolve, invoke, builtin, Sem.run_bind, Sem.run_pure, Result.andThen_ok, List.map_toArray, List.map_cons, List.map_nil, hs, hx, hr]
    exact hK _ _ h
theorem rule19 (x y : Bool) (W : World) : Calls Try.prog 19 #[.bool x, .bool y] W fun e w' => e = .returned (.bool (x && y)) ∧ w' = W := by
  cases x <;> cases y <;> (go_enter Try.func19, Try.ntmps19; go_wp2; go_ret; exact ⟨rfl, rfl⟩)
theorem rule20 (x y : Bool) (W : World) : Calls Try.prog 20 #[.bool x, .bool y] W fun e w' => e = .returned (.bool (x || y)) ∧ w' = W := by
  cases x <;> cases y <;> (go_enter Try.func20, Try.ntmps20; go_wp2; go_ret; exact ⟨rfl, rfl⟩)
theorem rule21 (x y : Bool) (W : World) : Calls Try.prog 21 #[.bool x, .bool y] W fun e w' => e = .returned (.bool (x && !y)) ∧ w' = W := by
  cases x <;> cases y <;> (go_enter Try.func21, Try.ntmps21; go_wp2; go_ret; exact ⟨rfl, rfl⟩)
/-- Those of A and B of which the rule says yes, in order, in a row of the call's own. -/
def MixR (r : Bool → Bool → Bool) (A B : List Int) (W : World) (e : Ending) (w' : World) : Prop := ∃ (out : List Int) (v : Value), out.Pairwise (· < ·) ∧ (∀ s, s ∈ out ↔ (s ∈ A ∨ s ∈ B) ∧ r (decide (s ∈ A)) (decide (s ∈ B)) = true) ∧ e = .returned v ∧ HRow w' 0 3 1 v out.length (out.map iv) ∧ Below W.heap.size W w'

set_option maxRecDepth 100000 in
set_option maxHeartbeats 4000000 in
theorem mix19 (A B : List Int) (pa pb : Option Addr) (na nb ca cb : Nat) (W : World) (hna : A.length = na) (hnb : B.length = nb) (hla : na ≤ 500) (hlb : nb ≤ 500) (ra : Rd W pa A) (rb : Rd W pb B) (hA : ∀ x ∈ A, inB x = true) (hB : ∀ x ∈ B, inB x = true) :
    Calls Try.prog 18 #[.slice pa na ca, .slice pb nb cb, .func (.func 19) #[] #[]] W (MixR (fun x y => x && y) A B W) := by
  obtain ⟨p1, c1, w1, hrun1, r1, g1⟩ := app_all (d := ca) Try.underlying29 W W.heap.size (xs := []) (n := 0) (c := 0) (p := none) rfl HRow.nil hna ra (by omega) (Nat.le_refl _)
  have B1 : Below W.heap.size W w1 := below_row (A := W) (base := W.heap.size) (e := 3) (sz := 1) HRow.nil g1 (Nat.le_refl _) (Nat.le_refl _)
  rw [List.nil_append, Nat.zero_add] at r1
  rw [Nat.zero_add] at hrun1
  obtain ⟨p2, c2, w2, hrun2, r2, g2⟩ := app_all (d := cb) Try.underlying29 w1 W.heap.size hna r1 hnb (rb.later B1) (by omega) B1.size
  have B2 : Below W.heap.size W w2 := B1.trans (below_row r1 g2 (Nat.le_refl _) B1.size)
  have hrd : Rd w2 p2 (A ++ B) := Ro.rd (base := W.heap.size) (cap := c2) (by rw [List.length_append, hna, hnb]; exact r2)
  have hset := setof_any (A ++ B) p2 (na + nb) c2 w2 (by rw [List.length_append, hna, hnb]) (by omega) hrd
  have HA := Lib.hid (And.intro hna (And.intro hnb (And.intro ra (And.intro rb (And.intro hA (And.intro hB B2))))))
  clear r1 g1 B1 r2 g2 B2 hrd hA hB ra rb hna hnb
  go_enter Try.func18, Try.ntmps18
  go_upto_block 0 with (first
    | (at_builtin; refine wpList_append_run2 rfl (.const (.slice none 0 0)) (.tmp 10) 22 29 rfl rfl rfl hrun1 ?_; clear hrun1)
    | (at_builtin; refine wpList_append_run2 rfl (.tmp 11) (.tmp 12) 22 29 rfl rfl rfl hrun2 ?_; clear hrun2)
    | (go_at_call 12; (with_reducible refine hset.mono ?_); rintro e w3 ⟨all, v3, hso, hmem, hlen, rfl, r3, b3⟩; clear hset))
  obtain ⟨p3, c3, rfl, hc3, _⟩ := HRow.isslice r3
  have hmem' : ∀ s, s ∈ all ↔ s ∈ A ∨ s ∈ B := fun s => by
    rw [hmem s, List.mem_append]
    exact ⟨fun h => h.1, fun h => ⟨h, h.elim (HA.out.2.2.2.2.1 s) (HA.out.2.2.2.2.2.1 s)⟩⟩
  have hl3 : all.length ≤ 1000 := by rw [List.length_append, HA.out.1, HA.out.2.1] at hlen; omega
  obtain ⟨n3, hn3⟩ : ∃ n3, all.length = n3 := ⟨_, rfl⟩
  have r3d : Rd w3 p3 all := Ro.rd r3
  rw [hn3] at hl3 ⊢
  obtain ⟨S, hS⟩ : ∃ S, w3.heap.size = S := ⟨_, rfl⟩
  have hB3 := below_on HA.out.2.2.2.2.2.2 (b3.mono HA.out.2.2.2.2.2.2.size |> fun h => b3)
  have H3 := Lib.hid (And.intro hso (And.intro hmem' (And.intro hn3 (And.intro r3d (And.intro hS hB3)))))
  clear hso hmem hmem' hlen r3 b3 hc3 hn3 r3d hS hB3
  go_wp2_with fail
  go_loopg [8, 9] (n3 + 1) (fun gh ov jv w => ∃ (j : Nat) (out : List Int), jv = .int .i64 (j : Int) ∧ j ≤ n3 ∧ n3 + 1 ≤ j + gh ∧ out = (all.take j).filter (fun s => (fun x y => x && y) (decide (s ∈ A)) (decide (s ∈ B))) ∧ out.length ≤ j ∧ Ro w S ov out ∧ Below S w3 w)
  case atStart => exact ⟨0, [], rfl, Nat.zero_le _, by omega, by simp, Nat.zero_le _, HRow.nil, Below.refl _ _⟩
  case round =>
    obtain ⟨j, out, rfl, hj, hg, hout, hol, hO, hBw⟩ := hrel
    obtain ⟨m, hm⟩ : ∃ m, out.length = m := ⟨_, rfl⟩
    obtain ⟨pl, cl, rfl, hc, hcm⟩ := HRow.isslice hO
    rw [hm] at hc hol ⊢
    have HI := Lib.hid (And.intro hout (And.intro hO (And.intro hBw hm)))
    by_cases hlt : j < n3
    · have hjx : j < all.length := by rw [H3.out.2.2.1]; exact hlt
      have hB3w : Below w3.heap.size w3 wr := by rw [H3.out.2.2.2.2.1]; exact hBw
      have hWw : Below W.heap.size W wr := below_on H3.out.2.2.2.2.2 hB3w
      obtain ⟨b, off, rfl, hbW, c0⟩ := (H3.out.2.2.2.1.later hB3w) j hjx
      obtain ⟨x, hx⟩ : ∃ x, all[j] = x := ⟨_, rfl⟩
      rw [hx] at c0
      have HX : Hid (all.take (j + 1) = all.take j ++ [x]) := Lib.hid (by rw [List.take_succ_eq_append_getElem hjx, hx])
      obtain ⟨ba, hba⟩ : ∃ ba, decide (x ∈ A) = ba := ⟨_, rfl⟩
      obtain ⟨bb, hbb⟩ : ∃ bb, decide (x ∈ B) = bb := ⟨_, rfl⟩
      have ha := fun y (hy : Below W.heap.size W y) => sethas_any A pa na ca y HA.out.1 (by omega) (HA.out.2.2.1.later hy) x ba (by rw [← hba, decide_eq_true_eq])
      have hb := fun y (hy : Below W.heap.size W y) => sethas_any B pb nb cb y HA.out.2.1 (by omega) (HA.out.2.2.2.1.later hy) x bb (by rw [← hbb, decide_eq_true_eq])
      have hr := fun y => rule19 ba bb y
      have HBB := Lib.hid (And.intro hba (And.intro hbb hWw))
      clear hx hba hbb hWw hout hO hBw hm hB3w
      have hstep : (fun s => (fun x y => x && y) (decide (s ∈ A)) (decide (s ∈ B))) x = (fun x y => x && y) ba bb := by
        show (fun x y => x && y) (decide (x ∈ A)) (decide (x ∈ B)) = _
        rw [HBB.out.1, HBB.out.2.1]
      obtain ⟨rr, hrr⟩ : ∃ rr, (fun x y => x && y) ba bb = rr := ⟨_, rfl⟩
      rw [hrr] at hstep
      have hr : ∀ y, Calls Try.prog 19 #[.bool ba, .bool bb] y fun e w' => e = .returned (.bool rr) ∧ w' = y := fun y => by
        have := rule19 ba bb y
        rw [← hrr]
        exact this
      have HST := Lib.hid hstep
      clear hstep hrr
      go_upto_region 6 with fail
      go_region_held3 (fun w => w.cell? ⟨b, off + j, none⟩ = some (Value.int .i64 (x))) (exact c0) (first
        | (go_at_call 15; (with_reducible refine Calls.mono (ha wr.drew HBB.out.2.2.drew) ?_); rintro e y1 ⟨rfl, hy1⟩; subst y1)
        | (go_at_call 15; (with_reducible refine Calls.mono (hb wr.drew HBB.out.2.2.drew) ?_); rintro e y1 ⟨rfl, hy1⟩; subst y1)
        | (go_at_call 19; (with_reducible refine Calls.mono (hr wr.drew) ?_); rintro e y1 ⟨rfl, hy1⟩; subst y1))
      have hSw : S ≤ wr.heap.size := by have := HI.out.2.2.1.size; have h2 := H3.out.2.2.2.2.1; omega
      cases rr
      · go_wp2_with fail
        go_roundg (n3 - j)
        case measure => omega
        case rel => exact ⟨j + 1, out, by go_num, by omega, by omega, by
          rw [HX.out, List.filter_append, ← HI.out.1, List.filter_cons_of_neg (by rw [HST.out]; decide)]; simp, by rw [HI.out.2.2.2]; omega, by rw [← HI.out.2.2.2]; exact HRow.later HI.out.2.1 (Below.refl _ wr).drew, HI.out.2.2.1.trans (Below.refl _ wr).drew⟩
      · have hO' : Ro wr.drew S (.slice pl m cl) out := by rw [← HI.out.2.2.2]; exact HRow.later HI.out.2.1 (Below.refl _ wr).drew
        obtain ⟨g, cap', w4, hrun, r4, g4, o4⟩ := app_int 29 Try.underlying29 wr.drew S HI.out.2.2.2 hO' (by omega) hSw x
        have HK := Lib.hid (And.intro r4 (below_row (n := S) hO' g4 (Nat.le_refl _) hSw))
        clear r4 g4 o4 hO'
        go_wp2_with (at_builtin; refine wpList_append_run rfl (.tmp 35) (.tmp 40) 29 rfl rfl rfl hrun ?_)
        go_roundg (n3 - j)
        case measure => omega
        case rel => exact ⟨j + 1, out ++ [x], by go_num, by omega, by omega, by
          rw [HX.out, List.filter_append, ← HI.out.1, List.filter_cons_of_pos (by rw [HST.out])]; rfl, by rw [List.length_append, HI.out.2.2.2]; simp; omega, HK.out.1, (HI.out.2.2.1.trans (Below.refl _ wr).drew).trans HK.out.2⟩
    · have HE : Hid (MixR (fun x y => x && y) A B W (.returned (.slice pl m cl)) wr) := Lib.hid ⟨out, _, by
        rw [hout]
        exact (H3.out.1.sublist (List.take_sublist _ _)).filter _, fun s => by
        rw [hout, List.take_of_length_le (by rw [H3.out.2.2.1]; omega), List.mem_filter, H3.out.2.1], rfl, by subst hm; exact HRow.mono hO (Nat.zero_le _), below_on H3.out.2.2.2.2.2 (by rw [H3.out.2.2.2.2.1]; exact hBw)⟩
      clear hout hO hBw hm
      go_wp2_with fail
      go_ret
      exact HE.out

set_option maxRecDepth 100000 in
set_option maxHeartbeats 4000000 in
theorem mix20 (A B : List Int) (pa pb : Option Addr) (na nb ca cb : Nat) (W : World) (hna : A.length = na) (hnb : B.length = nb) (hla : na ≤ 500) (hlb : nb ≤ 500) (ra : Rd W pa A) (rb : Rd W pb B) (hA : ∀ x ∈ A, inB x = true) (hB : ∀ x ∈ B, inB x = true) :
    Calls Try.prog 18 #[.slice pa na ca, .slice pb nb cb, .func (.func 20) #[] #[]] W (MixR (fun x y => x || y) A B W) := by
  obtain ⟨p1, c1, w1, hrun1, r1, g1⟩ := app_all (d := ca) Try.underlying29 W W.heap.size (xs := []) (n := 0) (c := 0) (p := none) rfl HRow.nil hna ra (by omega) (Nat.le_refl _)
  have B1 : Below W.heap.size W w1 := below_row (A := W) (base := W.heap.size) (e := 3) (sz := 1) HRow.nil g1 (Nat.le_refl _) (Nat.le_refl _)
  rw [List.nil_append, Nat.zero_add] at r1
  rw [Nat.zero_add] at hrun1
  obtain ⟨p2, c2, w2, hrun2, r2, g2⟩ := app_all (d := cb) Try.underlying29 w1 W.heap.size hna r1 hnb (rb.later B1) (by omega) B1.size
  have B2 : Below W.heap.size W w2 := B1.trans (below_row r1 g2 (Nat.le_refl _) B1.size)
  have hrd : Rd w2 p2 (A ++ B) := Ro.rd (base := W.heap.size) (cap := c2) (by rw [List.length_append, hna, hnb]; exact r2)
  have hset := setof_any (A ++ B) p2 (na + nb) c2 w2 (by rw [List.length_append, hna, hnb]) (by omega) hrd
  have HA := Lib.hid (And.intro hna (And.intro hnb (And.intro ra (And.intro rb (And.intro hA (And.intro hB B2))))))
  clear r1 g1 B1 r2 g2 B2 hrd hA hB ra rb hna hnb
  go_enter Try.func18, Try.ntmps18
  go_upto_block 0 with (first
    | (at_builtin; refine wpList_append_run2 rfl (.const (.slice none 0 0)) (.tmp 10) 22 29 rfl rfl rfl hrun1 ?_; clear hrun1)
    | (at_builtin; refine wpList_append_run2 rfl (.tmp 11) (.tmp 12) 22 29 rfl rfl rfl hrun2 ?_; clear hrun2)
    | (go_at_call 12; (with_reducible refine hset.mono ?_); rintro e w3 ⟨all, v3, hso, hmem, hlen, rfl, r3, b3⟩; clear hset))
  obtain ⟨p3, c3, rfl, hc3, _⟩ := HRow.isslice r3
  have hmem' : ∀ s, s ∈ all ↔ s ∈ A ∨ s ∈ B := fun s => by
    rw [hmem s, List.mem_append]
    exact ⟨fun h => h.1, fun h => ⟨h, h.elim (HA.out.2.2.2.2.1 s) (HA.out.2.2.2.2.2.1 s)⟩⟩
  have hl3 : all.length ≤ 1000 := by rw [List.length_append, HA.out.1, HA.out.2.1] at hlen; omega
  obtain ⟨n3, hn3⟩ : ∃ n3, all.length = n3 := ⟨_, rfl⟩
  have r3d : Rd w3 p3 all := Ro.rd r3
  rw [hn3] at hl3 ⊢
  obtain ⟨S, hS⟩ : ∃ S, w3.heap.size = S := ⟨_, rfl⟩
  have hB3 := below_on HA.out.2.2.2.2.2.2 (b3.mono HA.out.2.2.2.2.2.2.size |> fun h => b3)
  have H3 := Lib.hid (And.intro hso (And.intro hmem' (And.intro hn3 (And.intro r3d (And.intro hS hB3)))))
  clear hso hmem hmem' hlen r3 b3 hc3 hn3 r3d hS hB3
  go_wp2_with fail
  go_loopg [8, 9] (n3 + 1) (fun gh ov jv w => ∃ (j : Nat) (out : List Int), jv = .int .i64 (j : Int) ∧ j ≤ n3 ∧ n3 + 1 ≤ j + gh ∧ out = (all.take j).filter (fun s => (fun x y => x || y) (decide (s ∈ A)) (decide (s ∈ B))) ∧ out.length ≤ j ∧ Ro w S ov out ∧ Below S w3 w)
  case atStart => exact ⟨0, [], rfl, Nat.zero_le _, by omega, by simp, Nat.zero_le _, HRow.nil, Below.refl _ _⟩
  case round =>
    obtain ⟨j, out, rfl, hj, hg, hout, hol, hO, hBw⟩ := hrel
    obtain ⟨m, hm⟩ : ∃ m, out.length = m := ⟨_, rfl⟩
    obtain ⟨pl, cl, rfl, hc, hcm⟩ := HRow.isslice hO
    rw [hm] at hc hol ⊢
    have HI := Lib.hid (And.intro hout (And.intro hO (And.intro hBw hm)))
    by_cases hlt : j < n3
    · have hjx : j < all.length := by rw [H3.out.2.2.1]; exact hlt
      have hB3w : Below w3.heap.size w3 wr := by rw [H3.out.2.2.2.2.1]; exact hBw
      have hWw : Below W.heap.size W wr := below_on H3.out.2.2.2.2.2 hB3w
      obtain ⟨b, off, rfl, hbW, c0⟩ := (H3.out.2.2.2.1.later hB3w) j hjx
      obtain ⟨x, hx⟩ : ∃ x, all[j] = x := ⟨_, rfl⟩
      rw [hx] at c0
      have HX : Hid (all.take (j + 1) = all.take j ++ [x]) := Lib.hid (by rw [List.take_succ_eq_append_getElem hjx, hx])
      obtain ⟨ba, hba⟩ : ∃ ba, decide (x ∈ A) = ba := ⟨_, rfl⟩
      obtain ⟨bb, hbb⟩ : ∃ bb, decide (x ∈ B) = bb := ⟨_, rfl⟩
      have ha := fun y (hy : Below W.heap.size W y) => sethas_any A pa na ca y HA.out.1 (by omega) (HA.out.2.2.1.later hy) x ba (by rw [← hba, decide_eq_true_eq])
      have hb := fun y (hy : Below W.heap.size W y) => sethas_any B pb nb cb y HA.out.2.1 (by omega) (HA.out.2.2.2.1.later hy) x bb (by rw [← hbb, decide_eq_true_eq])
      have hr := fun y => rule20 ba bb y
      have HBB := Lib.hid (And.intro hba (And.intro hbb hWw))
      clear hx hba hbb hWw hout hO hBw hm hB3w
      have hstep : (fun s => (fun x y => x || y) (decide (s ∈ A)) (decide (s ∈ B))) x = (fun x y => x || y) ba bb := by
        show (fun x y => x || y) (decide (x ∈ A)) (decide (x ∈ B)) = _
        rw [HBB.out.1, HBB.out.2.1]
      obtain ⟨rr, hrr⟩ : ∃ rr, (fun x y => x || y) ba bb = rr := ⟨_, rfl⟩
      rw [hrr] at hstep
      have hr : ∀ y, Calls Try.prog 20 #[.bool ba, .bool bb] y fun e w' => e = .returned (.bool rr) ∧ w' = y := fun y => by
        have := rule20 ba bb y
        rw [← hrr]
        exact this
      have HST := Lib.hid hstep
      clear hstep hrr
      go_upto_region 6 with fail
      go_region_held3 (fun w => w.cell? ⟨b, off + j, none⟩ = some (Value.int .i64 (x))) (exact c0) (first
        | (go_at_call 15; (with_reducible refine Calls.mono (ha wr.drew HBB.out.2.2.drew) ?_); rintro e y1 ⟨rfl, hy1⟩; subst y1)
        | (go_at_call 15; (with_reducible refine Calls.mono (hb wr.drew HBB.out.2.2.drew) ?_); rintro e y1 ⟨rfl, hy1⟩; subst y1)
        | (go_at_call 20; (with_reducible refine Calls.mono (hr wr.drew) ?_); rintro e y1 ⟨rfl, hy1⟩; subst y1))
      have hSw : S ≤ wr.heap.size := by have := HI.out.2.2.1.size; have h2 := H3.out.2.2.2.2.1; omega
      cases rr
      · go_wp2_with fail
        go_roundg (n3 - j)
        case measure => omega
        case rel => exact ⟨j + 1, out, by go_num, by omega, by omega, by
          rw [HX.out, List.filter_append, ← HI.out.1, List.filter_cons_of_neg (by rw [HST.out]; decide)]; simp, by rw [HI.out.2.2.2]; omega, by rw [← HI.out.2.2.2]; exact HRow.later HI.out.2.1 (Below.refl _ wr).drew, HI.out.2.2.1.trans (Below.refl _ wr).drew⟩
      · have hO' : Ro wr.drew S (.slice pl m cl) out := by rw [← HI.out.2.2.2]; exact HRow.later HI.out.2.1 (Below.refl _ wr).drew
        obtain ⟨g, cap', w4, hrun, r4, g4, o4⟩ := app_int 29 Try.underlying29 wr.drew S HI.out.2.2.2 hO' (by omega) hSw x
        have HK := Lib.hid (And.intro r4 (below_row (n := S) hO' g4 (Nat.le_refl _) hSw))
        clear r4 g4 o4 hO'
        go_wp2_with (at_builtin; refine wpList_append_run rfl (.tmp 35) (.tmp 40) 29 rfl rfl rfl hrun ?_)
        go_roundg (n3 - j)
        case measure => omega
        case rel => exact ⟨j + 1, out ++ [x], by go_num, by omega, by omega, by
          rw [HX.out, List.filter_append, ← HI.out.1, List.filter_cons_of_pos (by rw [HST.out])]; rfl, by rw [List.length_append, HI.out.2.2.2]; simp; omega, HK.out.1, (HI.out.2.2.1.trans (Below.refl _ wr).drew).trans HK.out.2⟩
    · have HE : Hid (MixR (fun x y => x || y) A B W (.returned (.slice pl m cl)) wr) := Lib.hid ⟨out, _, by
        rw [hout]
        exact (H3.out.1.sublist (List.take_sublist _ _)).filter _, fun s => by
        rw [hout, List.take_of_length_le (by rw [H3.out.2.2.1]; omega), List.mem_filter, H3.out.2.1], rfl, by subst hm; exact HRow.mono hO (Nat.zero_le _), below_on H3.out.2.2.2.2.2 (by rw [H3.out.2.2.2.2.1]; exact hBw)⟩
      clear hout hO hBw hm
      go_wp2_with fail
      go_ret
      exact HE.out

set_option maxRecDepth 100000 in
set_option maxHeartbeats 4000000 in
theorem mix21 (A B : List Int) (pa pb : Option Addr) (na nb ca cb : Nat) (W : World) (hna : A.length = na) (hnb : B.length = nb) (hla : na ≤ 500) (hlb : nb ≤ 500) (ra : Rd W pa A) (rb : Rd W pb B) (hA : ∀ x ∈ A, inB x = true) (hB : ∀ x ∈ B, inB x = true) :
    Calls Try.prog 18 #[.slice pa na ca, .slice pb nb cb, .func (.func 21) #[] #[]] W (MixR (fun x y => x && !y) A B W) := by
  obtain ⟨p1, c1, w1, hrun1, r1, g1⟩ := app_all (d := ca) Try.underlying29 W W.heap.size (xs := []) (n := 0) (c := 0) (p := none) rfl HRow.nil hna ra (by omega) (Nat.le_refl _)
  have B1 : Below W.heap.size W w1 := below_row (A := W) (base := W.heap.size) (e := 3) (sz := 1) HRow.nil g1 (Nat.le_refl _) (Nat.le_refl _)
  rw [List.nil_append, Nat.zero_add] at r1
  rw [Nat.zero_add] at hrun1
  obtain ⟨p2, c2, w2, hrun2, r2, g2⟩ := app_all (d := cb) Try.underlying29 w1 W.heap.size hna r1 hnb (rb.later B1) (by omega) B1.size
  have B2 : Below W.heap.size W w2 := B1.trans (below_row r1 g2 (Nat.le_refl _) B1.size)
  have hrd : Rd w2 p2 (A ++ B) := Ro.rd (base := W.heap.size) (cap := c2) (by rw [List.length_append, hna, hnb]; exact r2)
  have hset := setof_any (A ++ B) p2 (na + nb) c2 w2 (by rw [List.length_append, hna, hnb]) (by omega) hrd
  have HA := Lib.hid (And.intro hna (And.intro hnb (And.intro ra (And.intro rb (And.intro hA (And.intro hB B2))))))
  clear r1 g1 B1 r2 g2 B2 hrd hA hB ra rb hna hnb
  go_enter Try.func18, Try.ntmps18
  go_upto_block 0 with (first
    | (at_builtin; refine wpList_append_run2 rfl (.const (.slice none 0 0)) (.tmp 10) 22 29 rfl rfl rfl hrun1 ?_; clear hrun1)
    | (at_builtin; refine wpList_append_run2 rfl (.tmp 11) (.tmp 12) 22 29 rfl rfl rfl hrun2 ?_; clear hrun2)
    | (go_at_call 12; (with_reducible refine hset.mono ?_); rintro e w3 ⟨all, v3, hso, hmem, hlen, rfl, r3, b3⟩; clear hset))
  obtain ⟨p3, c3, rfl, hc3, _⟩ := HRow.isslice r3
  have hmem' : ∀ s, s ∈ all ↔ s ∈ A ∨ s ∈ B := fun s => by
    rw [hmem s, List.mem_append]
    exact ⟨fun h => h.1, fun h => ⟨h, h.elim (HA.out.2.2.2.2.1 s) (HA.out.2.2.2.2.2.1 s)⟩⟩
  have hl3 : all.length ≤ 1000 := by rw [List.length_append, HA.out.1, HA.out.2.1] at hlen; omega
  obtain ⟨n3, hn3⟩ : ∃ n3, all.length = n3 := ⟨_, rfl⟩
  have r3d : Rd w3 p3 all := Ro.rd r3
  rw [hn3] at hl3 ⊢
  obtain ⟨S, hS⟩ : ∃ S, w3.heap.size = S := ⟨_, rfl⟩
  have hB3 := below_on HA.out.2.2.2.2.2.2 (b3.mono HA.out.2.2.2.2.2.2.size |> fun h => b3)
  have H3 := Lib.hid (And.intro hso (And.intro hmem' (And.intro hn3 (And.intro r3d (And.intro hS hB3)))))
  clear hso hmem hmem' hlen r3 b3 hc3 hn3 r3d hS hB3
  go_wp2_with fail
  go_loopg [8, 9] (n3 + 1) (fun gh ov jv w => ∃ (j : Nat) (out : List Int), jv = .int .i64 (j : Int) ∧ j ≤ n3 ∧ n3 + 1 ≤ j + gh ∧ out = (all.take j).filter (fun s => (fun x y => x && !y) (decide (s ∈ A)) (decide (s ∈ B))) ∧ out.length ≤ j ∧ Ro w S ov out ∧ Below S w3 w)
  case atStart => exact ⟨0, [], rfl, Nat.zero_le _, by omega, by simp, Nat.zero_le _, HRow.nil, Below.refl _ _⟩
  case round =>
    obtain ⟨j, out, rfl, hj, hg, hout, hol, hO, hBw⟩ := hrel
    obtain ⟨m, hm⟩ : ∃ m, out.length = m := ⟨_, rfl⟩
    obtain ⟨pl, cl, rfl, hc, hcm⟩ := HRow.isslice hO
    rw [hm] at hc hol ⊢
    have HI := Lib.hid (And.intro hout (And.intro hO (And.intro hBw hm)))
    by_cases hlt : j < n3
    · have hjx : j < all.length := by rw [H3.out.2.2.1]; exact hlt
      have hB3w : Below w3.heap.size w3 wr := by rw [H3.out.2.2.2.2.1]; exact hBw
      have hWw : Below W.heap.size W wr := below_on H3.out.2.2.2.2.2 hB3w
      obtain ⟨b, off, rfl, hbW, c0⟩ := (H3.out.2.2.2.1.later hB3w) j hjx
      obtain ⟨x, hx⟩ : ∃ x, all[j] = x := ⟨_, rfl⟩
      rw [hx] at c0
      have HX : Hid (all.take (j + 1) = all.take j ++ [x]) := Lib.hid (by rw [List.take_succ_eq_append_getElem hjx, hx])
      obtain ⟨ba, hba⟩ : ∃ ba, decide (x ∈ A) = ba := ⟨_, rfl⟩
      obtain ⟨bb, hbb⟩ : ∃ bb, decide (x ∈ B) = bb := ⟨_, rfl⟩
      have ha := fun y (hy : Below W.heap.size W y) => sethas_any A pa na ca y HA.out.1 (by omega) (HA.out.2.2.1.later hy) x ba (by rw [← hba, decide_eq_true_eq])
      have hb := fun y (hy : Below W.heap.size W y) => sethas_any B pb nb cb y HA.out.2.1 (by omega) (HA.out.2.2.2.1.later hy) x bb (by rw [← hbb, decide_eq_true_eq])
      have hr := fun y => rule21 ba bb y
      have HBB := Lib.hid (And.intro hba (And.intro hbb hWw))
      clear hx hba hbb hWw hout hO hBw hm hB3w
      have hstep : (fun s => (fun x y => x && !y) (decide (s ∈ A)) (decide (s ∈ B))) x = (fun x y => x && !y) ba bb := by
        show (fun x y => x && !y) (decide (x ∈ A)) (decide (x ∈ B)) = _
        rw [HBB.out.1, HBB.out.2.1]
      obtain ⟨rr, hrr⟩ : ∃ rr, (fun x y => x && !y) ba bb = rr := ⟨_, rfl⟩
      rw [hrr] at hstep
      have hr : ∀ y, Calls Try.prog 21 #[.bool ba, .bool bb] y fun e w' => e = .returned (.bool rr) ∧ w' = y := fun y => by
        have := rule21 ba bb y
        rw [← hrr]
        exact this
      have HST := Lib.hid hstep
      clear hstep hrr
      go_upto_region 6 with fail
      go_region_held3 (fun w => w.cell? ⟨b, off + j, none⟩ = some (Value.int .i64 (x))) (exact c0) (first
        | (go_at_call 15; (with_reducible refine Calls.mono (ha wr.drew HBB.out.2.2.drew) ?_); rintro e y1 ⟨rfl, hy1⟩; subst y1)
        | (go_at_call 15; (with_reducible refine Calls.mono (hb wr.drew HBB.out.2.2.drew) ?_); rintro e y1 ⟨rfl, hy1⟩; subst y1)
        | (go_at_call 21; (with_reducible refine Calls.mono (hr wr.drew) ?_); rintro e y1 ⟨rfl, hy1⟩; subst y1))
      have hSw : S ≤ wr.heap.size := by have := HI.out.2.2.1.size; have h2 := H3.out.2.2.2.2.1; omega
      cases rr
      · go_wp2_with fail
        go_roundg (n3 - j)
        case measure => omega
        case rel => exact ⟨j + 1, out, by go_num, by omega, by omega, by
          rw [HX.out, List.filter_append, ← HI.out.1, List.filter_cons_of_neg (by rw [HST.out]; decide)]; simp, by rw [HI.out.2.2.2]; omega, by rw [← HI.out.2.2.2]; exact HRow.later HI.out.2.1 (Below.refl _ wr).drew, HI.out.2.2.1.trans (Below.refl _ wr).drew⟩
      · have hO' : Ro wr.drew S (.slice pl m cl) out := by rw [← HI.out.2.2.2]; exact HRow.later HI.out.2.1 (Below.refl _ wr).drew
        obtain ⟨g, cap', w4, hrun, r4, g4, o4⟩ := app_int 29 Try.underlying29 wr.drew S HI.out.2.2.2 hO' (by omega) hSw x
        have HK := Lib.hid (And.intro r4 (below_row (n := S) hO' g4 (Nat.le_refl _) hSw))
        clear r4 g4 o4 hO'
        go_wp2_with (at_builtin; refine wpList_append_run rfl (.tmp 35) (.tmp 40) 29 rfl rfl rfl hrun ?_)
        go_roundg (n3 - j)
        case measure => omega
        case rel => exact ⟨j + 1, out ++ [x], by go_num, by omega, by omega, by
          rw [HX.out, List.filter_append, ← HI.out.1, List.filter_cons_of_pos (by rw [HST.out])]; rfl, by rw [List.length_append, HI.out.2.2.2]; simp; omega, HK.out.1, (HI.out.2.2.1.trans (Below.refl _ wr).drew).trans HK.out.2⟩
    · have HE : Hid (MixR (fun x y => x && !y) A B W (.returned (.slice pl m cl)) wr) := Lib.hid ⟨out, _, by
        rw [hout]
        exact (H3.out.1.sublist (List.take_sublist _ _)).filter _, fun s => by
        rw [hout, List.take_of_length_le (by rw [H3.out.2.2.1]; omega), List.mem_filter, H3.out.2.1], rfl, by subst hm; exact HRow.mono hO (Nat.zero_le _), below_on H3.out.2.2.2.2.2 (by rw [H3.out.2.2.2.2.1]; exact hBw)⟩
      clear hout hO hBw hm
      go_wp2_with fail
      go_ret
      exact HE.out
end Go.Proofs.Ytpdidlnbeahanaa
