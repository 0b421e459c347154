/- Operations are done one by one, or the first that may not be is told: the law. As many as forty operations are a batch: the law. -/
import Derived.Test.YtgbkmjnnlkgpnaaGreatZb53
set_option maxHeartbeats 8000000
set_option maxRecDepth 100000
namespace Go.Proofs.YtgbkmjnnlkgpnaaGreat
open Go Go.RowKit Go.Proofs Co Co.S
/-- What stands behind both batches. -/
structure Two (W:World) (F1 F2 d b m:Nat) (p q:Option Addr) (n c c':Nat) (out:Out) (w:World):Prop where
  f1:w.heap[F1]? = some (.cells #[.int .i64 out.err, .int .i64 out.place, .string out.tbl, .int .i64 0, .string e0] 33)
  f2:w.heap[F2]? = some (.cells #[.int .i64 out.err, .int .i64 out.place, .string out.tbl, .int .i64 0, .string e0] 33)
  r1:Ro w 0 (.slice p n c) out.ids
  r2:Ro w 0 (.slice q n c') out.ids
  rd:Rd2 w d b (pre 4) out.rows
  sm:∀ x ∈ out.rows, SmP m x
  bel:Below W.heap.size W w
theorem Two.later {W w w':World} {F1 F2 d b m:Nat} {p q:Option Addr} {n c c':Nat} {out:Out} (h:Two W F1 F2 d b m p q n c c' out w) (hb:Below w.heap.size w w'):Two W F1 F2 d b m p q n c c' out w' :=
  ⟨heap_on hb h.f1, heap_on hb h.f2, h.r1.later hb, h.r2.later hb, h.rd.later hb, h.sm, below_on h.bel hb⟩
theorem two_of {W W0 w9 w11:World} {K Kx Kx2:Nat -> Prop} {d b m:Nat} {ps:List Nat} {L2:List PT} {out:Out} {p q:Option Addr} {n n' c c':Nat} {fv:Array Value}
    (hlo:PD K W0 w9 d b (pre 4) ps out.rows L2) (hW:Below W.heap.size W W0) (hWK:∀ q, q < W.heap.size -> K q)
    (hk:∀ q, K q -> Kx q) (hr:Ro w9 0 (.slice p n c) out.ids) (hkr:∀ q', (Value.slice p n c).ownBlock = some q' -> Kx q') (hfv:fv = #[.int .i64 out.err, .int .i64 out.place, .string out.tbl, .int .i64 0, .string e0])
    (hst:∀ q', (Kx q' ∨ (w9.heap.size <= q' /\ q' < (w9.alloc (.cells fv 33)).heap.size)) -> Kx2 q' /\ w11.heap[q']? = (w9.alloc (.cells fv 33)).heap[q']?) (hr2:Ro w11 0 (.slice q n' c') out.ids)
    (hP:PD Kx2 w11 w11 d b (pre 4) ps out.rows out.rows) (hP2:PD (fun q' => Kx q' ∨ (w9.heap.size <= q' /\ q' < (w9.alloc (.cells fv 33)).heap.size)) (w9.alloc (.cells fv 33)) w11 d b (pre 4) ps out.rows out.rows) (hsm:∀ x ∈ out.rows, SmP m x) (hn:n = out.ids.length) (hn':n' = out.ids.length) :
    Two W w9.heap.size w11.heap.size d b m p q n c c' out (w11.alloc (.cells fv 33)) /\ n' = n := by
  subst hfv;have hba := below_alloc w9 (.cells #[.int .i64 out.err, .int .i64 out.place, .string out.tbl, .int .i64 0, .string e0] 33);have hna := heap_alloc_new w9 (.cells #[.int .i64 out.err, .int .i64 out.place, .string out.tbl, .int .i64 0, .string e0] 33);have hbb := below_alloc w11 (.cells #[.int .i64 out.err, .int .i64 out.place, .string out.tbl, .int .i64 0, .string e0] 33);have hnb := heap_alloc_new w11 (.cells #[.int .i64 out.err, .int .i64 out.place, .string out.tbl, .int .i64 0, .string e0] 33);have e1 := hst w9.heap.size (.inr ⟨Nat.le_refl _, lt_of_heap hna⟩);have e:n' = n := hn'.trans hn.symm;subst e;refine⟨⟨heap_on hbb (e1.2.trans hna), hnb, (hr.of (w' := w11) (fun q' hq => ?_)).later hbb, hr2.later hbb, (hP.rd2).later hbb, hsm, ?_⟩, rfl⟩
  · exact (hst q' (.inl (hkr q' hq))).2.trans (hba.block q' (HRow.lt hr q' hq).2)
  · have h2 := (hlo.later hba).back hP2 (fun q' hq => .inl (hk q' hq))
    exact below_on (h2.bel hW hWK) hbb
theorem ball_law {p0 q0:Option Addr} {c0 c1:Nat} {L M:List OpX} (W:World) (hL:OpsR W p0 L) (hLm:L.length <= maxLen) (hid:∀ o ∈ L, F64 o.id) (hM:OpsR W q0 M) (hMm:M.length <= maxLen) (hid2:∀ o ∈ M, F64 o.id) :
    Calls Tryz.prog 3 #[.slice p0 L.length c0, .slice q0 M.length c1] W fun e w' => e = .returned (.bool true) /\ Below W.heap.size W w' := by
  have hbeg := begun13_any W;obtain⟨n, hn⟩:∃ n, L.length = n := ⟨_, rfl⟩;obtain⟨n', hn'⟩:∃ n, M.length = n := ⟨_, rfl⟩;have HA := Lib.hid (And.intro hL (And.intro hLm (And.intro hid (And.intro hM (And.intro hMm (And.intro hid2 (And.intro hn hn')))))));rw[hn, hn'];clear hL hLm hid hM hMm hid2 hn hn';go_enter Tryz.func3, Tryz.ntmps3;go_upto_region 4 with (go_at_call 11;(with_reducible refine hbeg.mono ?_);rintro e w4 ⟨rfl, hb2⟩;have H4 := Lib.hid hb2;clear hbeg hb2);have hstar := star_pd w4;go_upto_region 5 with (go_at_call 12;(with_reducible refine hstar.mono ?_);rintro e w5 ⟨d, b, ps, rfl, hP5⟩;have HP5 := Lib.hid hP5;clear hstar hP5);have hb5 := HP5.out.bel (Below.refl _ _) (fun q hq => hq);have hops := ops_any (W := w5) (c := c0) 20 (by decide) (opsR_later HA.out.1 (below_on H4.out hb5)) HA.out.2.1;rw[HA.out.2.2.2.2.2.2.1] at hops;have hops:Calls Tryz.prog 14 #[.slice p0 n c0, .int .i64 20] w5 _ := hops;clear hb5
  go_upto_region 6 with (first
    | (go_at_call 14;(with_reducible refine hops.mono ?_);rintro e w6 ⟨tv, rfl, ho, hb6⟩;have hfill := fill_star HP5.out hb6 ho HA.out.2.2.1 (by decide);clear hops ho hb6)
    | (go_at_call 13;(with_reducible refine hfill.mono ?_);rintro e w7 ⟨rfl, hP7⟩;have HP7 := Lib.hid hP7;clear hfill hP7))
  obtain⟨L', hL'⟩:∃ x, fillP (pre 4) Lz ((L.take 20).map cutOp) = x := ⟨_, rfl⟩;have hsm:∀ x ∈ L', SmP 60 x :=(by rw[<- hL'];exact fill_small (by decide));rw[hL'] at HP7;have HSM := Lib.hid hsm;have hb7 := HP7.out.bel (Below.refl _ _) (fun q hq => hq);have hops := ops_any (W := w7) (c := c1) 45 (by decide) (opsR_later HA.out.2.2.2.1 (below_on H4.out hb7)) HA.out.2.2.2.2.1;rw[HA.out.2.2.2.2.2.2.2] at hops;have hops:Calls Tryz.prog 14 #[.slice q0 n' c1, .int .i64 45] w7 _ := hops;clear hb7 hL' hsm;go_upto_region 7 with (go_at_call 14;(with_reducible refine hops.mono ?_);rintro e w8 ⟨tv, rfl, ho, hb8⟩;have H8 := Lib.hid (And.intro ho hb8);clear hops ho hb8);obtain⟨ops, hops⟩:∃ x, (M.take 45).map cutOp = x := ⟨_, rfl⟩;have hok:∀ o ∈ ops, OpOk o :=(by rw[<- hops];exact ops_ok HA.out.2.2.2.2.2.1 45);have hlen:ops.length <= 45 :=(by rw[<- hops, List.length_map, List.length_take];omega);rw[hops] at H8
  obtain⟨ptv, ctv, rfl⟩:∃ p c, tv = .slice p ops.length c := by
    obtain⟨sv, _, h3, _⟩ := H8.out.1;obtain⟨p, c, e, _, _⟩ := h3.isslice;exact⟨p, c, e⟩
  have hap := star_apply HP7.out H8.out.2 H8.out.1 hok HSM.out (by omega);obtain⟨out, hout⟩:∃ x, applyB (pre 4) L' ops = x := ⟨_, rfl⟩
  have hosm:∀ x ∈ out.rows, SmP 105 x := fun x hx => by
    rw[<- hout] at hx;exact (applyB_sm HSM.out x hx).mono (by omega)
  have hoid:out.ids.length <= 45 :=(by rw[<- hout];exact Nat.le_trans applyB_ids hlen);rw[hout] at hap;have HO := Lib.hid (And.intro hok (And.intro hlen (And.intro hout (And.intro hosm hoid))));obtain⟨k, hk⟩:∃ k, ops.length = k := ⟨_, rfl⟩;rw[hk] at hap H8 ⊢;clear hok hlen hout hosm hoid hops hk;go_upto_region 8 with (go_at_call 15;(with_reducible refine hap.mono ?_);rintro e w9 ⟨pi, ni, ci, Kx, rfl, hni, hst, hr, hkr, hok, hP9, hB9⟩;have H9 := Lib.hid (And.intro hni (And.intro hst (And.intro hr (And.intro hkr (And.intro hok (And.intro hP9 hB9))))));clear hap hni hst hr hkr hok hP9 hB9);have hba := below_alloc w9 (.cells #[.int .i64 out.err, .int .i64 out.place, .string out.tbl, .int .i64 0, .string e0] 33);have hnap := star_napply H9.out.2.2.2.2.2.1 hba H9.out.2.2.2.2.1 HO.out.1 HSM.out (by have := HO.out.2.1;omega);rw[HO.out.2.2.1] at hnap;clear hba;go_upto_region 9 with (go_at_call 16;(with_reducible refine hnap.mono ?_);rintro e w11 ⟨pj, nj, cj, Kx2, rfl, hnj, hst2, hr2, hkr2, hP11, hB11⟩;have H11 := Lib.hid (And.intro hnj (And.intro hst2 (And.intro hr2 (And.intro hP11 hB11))));clear hnap hnj hst2 hr2 hkr2 hP11 hB11);have HT := Lib.hid (two_of (m := 105) H9.out.2.2.2.2.2.2 (Below.refl _ _) (fun q hq => hq) (fun q hq => (H9.out.2.1 q (.inl hq)).1) H9.out.2.2.1 H9.out.2.2.2.1 rfl H11.out.2.1 H11.out.2.2.1 H11.out.2.2.2.1 H11.out.2.2.2.2 HO.out.2.2.2.1 H9.out.1 H11.out.1);obtain rfl:nj = ni := HT.out.2;obtain⟨w12, hw12⟩:∃ x, w11.alloc (.cells #[.int .i64 out.err, .int .i64 out.place, .string out.tbl, .int .i64 0, .string e0] 33) = x := ⟨_, rfl⟩;obtain⟨F1, hF1⟩:∃ x, w9.heap.size = x := ⟨_, rfl⟩;obtain⟨F2, hF2⟩:∃ x, w11.heap.size = x := ⟨_, rfl⟩;have hT := HT.out.1;rw[hw12, hF1, hF2] at hT;have HT2 := Lib.hid hT;have c0 := nd_cell hT.f1 0;have c1' := nd_cell hT.f1 1;have c2 := nd_cell hT.f1 2;have c3 := nd_cell hT.f1 3;have c4 := nd_cell hT.f1 4;have cl := lt_of_heap hT.f1;have d0 := nd_cell hT.f2 0;have d1 := nd_cell hT.f2 1;have d2 := nd_cell hT.f2 2;have d3 := nd_cell hT.f2 3;have d4 := nd_cell hT.f2 4;have dl := lt_of_heap hT.f2;have HWX := Lib.hid (And.intro hw12 (And.intro hF1 hF2));clear hT hw12 hF1 hF2 HT;rw[HWX.out.1, HWX.out.2.1, HWX.out.2.2];have hid12 := HO.out.2.2.2.2;have hf := eqfault_same out.err out.place 0 out.tbl e0 w12
  go_wp2_with (first
    | (go_at_call 17;(with_reducible refine hf.mono ?_);rintro e w13 ⟨rfl, hb13⟩;have H13 := Lib.hid (HT2.out.later hb13);have hi := eqids_same H13.out.r1 H13.out.r2 (by have := HO.out.2.2.2.2;omega);clear hf hb13 c0 c1' c2 c3 c4 cl d0 d1 d2 d3 d4 dl)
    | (go_at_call 18;(with_reducible refine hi.mono ?_);rintro e w14 ⟨rfl, hb14⟩;have H14 := Lib.hid (H13.out.later hb14);have hs := H14.out.rd.same H14.out.sm (by decide);clear hi hb14)
    | (go_at_call 19;(with_reducible refine hs.mono ?_);rintro e w15 ⟨rfl, hb15⟩;have H15 := Lib.hid (H14.out.later hb15);clear hs hb15))
  go_ret;exact⟨rfl, below_on H4.out H15.out.bel⟩
end Go.Proofs.YtgbkmjnnlkgpnaaGreat
namespace Go.Proofs.YtgbkmjnnlkgpnaaGreat
open Go Go.RowKit Go.Proofs Co Co.S
/-- An operation more. -/
theorem ops_app {y:World} {base n c:Nat} {p:Option Addr} {ops:List OpX} {vv:Value} {u:OpX} (h:OpsO y base (.slice p n c) ops) (hn:ops.length = n) (hm:n + 1 <= 1000000) (hb:base <= y.heap.size) (hv:HRow y base 42 3 vv u.vals.length (cells3 u.vals)) :
    ∃ g cap w', (Builtin.append_ #[22, 22] 22 #[.slice p n c, .slice (some ⟨y.heap.size, 0, none⟩) 1 1]).run Tryz.prog (y.alloc (.cells #[.int .i64 u.dO, .string u.tbl, .int .i64 u.id, .string u.col, vv] 47)) = .ok (.slice (some ⟨g, 0, none⟩) (n + 1) cap) w' /\
      OpsO w' base (.slice (some ⟨g, 0, none⟩) (n + 1) cap) (ops++[u]) /\ Below base y w' := by
  subst hn;obtain⟨sv, h1, h2, h3⟩ := h
  have hone:vv.oneCell' = true := by
    obtain⟨p', c', rfl, _, _⟩ := HRow.isslice hv;rfl
  obtain⟨g, cap, w', hr, k1, k2, k3⟩ := app_op y base h2 hm hb u vv hone
  have hap:∀ {v:Value} {m:Nat} {xs:List Value}, HRow y base 42 3 v m xs -> HRow w' base 42 3 v m xs := fun hr' => hr'.by_other k2 (fun k cur hk hc => by
    obtain⟨_, cur2, e⟩ := HRow.block h2 k hk;rw[e] at hc;cases hc)
  refine⟨g, cap, w', hr, ⟨sv++[vv], by rw[List.length_append, List.length_append, h1];rfl, ?_, fun j hj => ?_⟩, below_row (n := base) h2 k2 (Nat.le_refl _) hb⟩
  · rw[cellsO_snoc _ _ _ _ h1, List.length_append]
    exact k1
  · by_cases e:j < ops.length
    · obtain⟨v, e1, e2⟩ := h3 j e
      refine⟨v, by rw[List.getElem?_append_left (by omega)];exact e1, ?_⟩;rw[List.getElem_append_left e];exact hap e2
    · have ej:j = ops.length := by rw[List.length_append, List.length_singleton] at hj;omega
      subst ej;refine⟨vv, by rw[<- h1, List.getElem?_append_right (Nat.le_refl _), Nat.sub_self];rfl, ?_⟩;rw[List.getElem_append_right (Nat.le_refl _)];simp only[Nat.sub_self, List.getElem_singleton];exact hap hv
abbrev mOp (i:Int):OpX := ⟨1, sLand, 0, e0, [(1, i, e0), (2, 0, bx)]⟩
def mOps (n:Nat):List OpX := (List.range n).map fun i:Nat => mOp (i:Int)
theorem mOps_len (n:Nat):(mOps n).length = n := by unfold mOps;rw[List.length_map, List.length_range]
theorem mOps_succ (n:Nat):mOps (n + 1) = mOps n++[mOp (n:Int)] := by unfold mOps;rw[List.range_succ, List.map_append];rfl
theorem mOps_ok (n:Nat):∀ o ∈ mOps n, OpOk o := fun o ho => by
  obtain⟨i, _, rfl⟩ := List.mem_map.1 ho;refine opok_b (by decide) (by decide) (fun x hx => ?_) (Nat.le_of_ble_eq_true rfl);have h:x = (1, (i:Int), e0) ∨ x = (2, 0, bx) :=(by simpa using hx);rcases h with rfl|rfl
  · exact Nat.zero_le _
  · exact Nat.le_of_ble_eq_true rfl
theorem mOp_ins (i:Int):insE (pre 4)[0] (mOp i).vals = 0 := by kernel_rfl
theorem mOp_ix:ixT (pre 4) sLand = ((0:Nat):Int) := by kernel_rfl
theorem mOp_err {L:List PT} (hL:L.length = 4) (i:Int):(doE (pre 4) L (mOp i)).2 = 0 := by
  rw[doE_at (j := 0) (by rfl) mOp_ix (by decide) (by omega), if_pos rfl];exact mOp_ins i
theorem runB_ins:∀ (l:List Int) (L:List PT) (k:Nat) (ids:List Int), L.length = 4 -> (runB (pre 4) L k ids (l.map mOp)).err = 0
  | [], L, k, ids, _ => rfl
  | i::l, L, k, ids, h => by
    rw[List.map_cons, runB, if_pos (mOp_err h i)];exact runB_ins l _ _ _ (by rw[do1_len];exact h)
theorem mOps_err (n:Nat):(applyB (pre 4) Lz (mOps n)).err = if 1 <= n /\ n <= 40 then 0 else 5 := by
  unfold applyB;rw[mOps_len];by_cases h:n = 0 ∨ 40 < n
  · rw[if_pos h, if_neg (by omega)]
  · rw[if_neg h, if_pos (by omega)]
    have e:mOps n = ((List.range n).map (fun i:Nat => (i:Int))).map mOp :=(by unfold mOps;rw[List.map_map];rfl);rw[e];exact runB_ins _ _ _ _ rfl
theorem bmany_law (a:Int) (W:World):Calls Tryz.prog 4 #[.int .i64 a] W fun e w' => e = .returned (.bool true) /\ Below W.heap.size W w' := by
  have hbeg := begun13_any W;by_cases hneg:a < 0
  · go_enter Tryz.func4, Tryz.ntmps4
    go_wp2_with (go_at_call 11;(with_reducible refine hbeg.mono ?_);rintro e w4 ⟨rfl, hb2⟩);go_ret;exact⟨rfl, hb2⟩
  by_cases hbig:a>60
  · go_enter Tryz.func4, Tryz.ntmps4
    go_wp2_with (go_at_call 11;(with_reducible refine hbeg.mono ?_);rintro e w4 ⟨rfl, hb2⟩);go_ret;exact⟨rfl, hb2⟩
  obtain⟨n, rfl⟩:∃ n:Nat, a = (n:Int) := ⟨a.toNat, by omega⟩;have hn60:(n:Int) <= 60 :=(by omega);go_enter Tryz.func4, Tryz.ntmps4;go_upto_region 6 with (go_at_call 11;(with_reducible refine hbeg.mono ?_);rintro e w4 ⟨rfl, hb2⟩;have H4 := Lib.hid hb2;clear hbeg hb2);have hstar := star_pd w4;go_upto_region 7 with (go_at_call 12;(with_reducible refine hstar.mono ?_);rintro e w5 ⟨d, b, ps, rfl, hP5⟩;have HP5 := Lib.hid hP5;clear hstar hP5);go_wp2_with fail;go_loopg [6, 7] (n + 1) (fun gh lv jv w => ∃ (j:Nat) (p:Option Addr) (c:Nat), jv = .int .i64 (j:Int) /\ j <= n /\ n + 1 <= j + gh /\ lv = .slice p j c /\ OpsO w w5.heap.size (.slice p j c) (mOps j) /\ Below w5.heap.size w5 w)
  case atStart => exact⟨0, none, 0, rfl, Nat.zero_le _, by omega, rfl, OpsO.nil, Below.refl _ _⟩
  case round =>
    obtain⟨j, p, c, rfl, hj, hg, rfl, ho, hB⟩ := hrel;have HB := Lib.hid (And.intro ho hB);clear ho hB;by_cases hlt:j < n
    · have hji:(j:Int) < (n:Int) := by omega
      have hnum := num_any (j:Int) wr
      go_wp2_with (first
        | (go_at_call 20;(with_reducible refine hnum.mono ?_);rintro e w2 ⟨rfl, hb2⟩;have H2 := Lib.hid hb2;have hta := text_any bx w2;clear hnum hb2)
        | (go_at_call 21;(with_reducible refine hta.mono ?_);rintro e w3 ⟨rfl, hb3⟩;have H3 := Lib.hid (below_on H2.out hb3);clear hta hb3
           have hbv := below_on H3.out (below_alloc w3 (.cells #[.int .i64 1, .int .i64 (j:Int), .string e0, .int .i64 2, .int .i64 0, .string bx] 42));have hnv := heap_alloc_new w3 (.cells #[.int .i64 1, .int .i64 (j:Int), .string e0, .int .i64 2, .int .i64 0, .string bx] 42);have hlo := Nat.le_trans HB.out.2.size H3.out.size;have hrow:HRow (w3.alloc (.cells #[.int .i64 1, .int .i64 (j:Int), .string e0, .int .i64 2, .int .i64 0, .string bx] 42)) w5.heap.size 42 3 (.slice (some ⟨w3.heap.size, 0, none⟩) 2 2) (mOp (j:Int)).vals.length (cells3 (mOp (j:Int)).vals) := HRow.lit hnv rfl rfl hlo (by unfold maxLen;decide);obtain⟨g, cap, wz, hrun, ho2, hb4⟩ := ops_app (u := mOp (j:Int)) (HB.out.1.later hbv) (mOps_len j) (by omega) (by rw[World.size_alloc];omega) hrow;rw[<- mOps_succ] at ho2;have hsz5:w5.heap.size <= wr.heap.size := HB.out.2.size;have hbz:Below w5.heap.size w5 wz := HB.out.2.trans ((hbv.mono hsz5).trans hb4);have HZ := Lib.hid (And.intro ho2 hbz);have esz:(w3.alloc (.cells #[.int .i64 1, .int .i64 (j:Int), .string e0, .int .i64 2, .int .i64 0, .string bx] 42)).heap.size = w3.heap.size + 1 := World.size_alloc _ _;rw[esz] at hrun;clear hbv hnv hlo hrow ho2 hb4 hsz5 hbz esz)
        | (at_builtin;refine wpList_append_run rfl (.tmp 30) (.tmp 36) 22 rfl rfl rfl hrun ?_))
      go_roundg (n-j)
      case measure => omega
      case rel => exact⟨j + 1, _, _, by go_num, by omega, by omega, rfl, HZ.out.1, HZ.out.2⟩
    · obtain rfl:j = n := by omega
      have hap := star_apply HP5.out HB.out.2 HB.out.1 (mOps_ok j) Lz_sm (by rw[mOps_len];omega);have herr := mOps_err j;obtain⟨out, hout⟩:∃ x, applyB (pre 4) Lz (mOps j) = x := ⟨_, rfl⟩
      have hosm:∀ x ∈ out.rows, SmP 105 x := fun x hx => by
        rw[<- hout] at hx;have := applyB_sm Lz_sm x hx;rw[mOps_len] at this;exact this.mono (by omega)
      have hoid:out.ids.length <= 60 :=(by rw[<- hout];exact Nat.le_trans applyB_ids (by rw[mOps_len];omega));rw[hout] at hap herr;have HO := Lib.hid (And.intro hout (And.intro hosm (And.intro hoid herr)));have HJ := Lib.hid hn60;clear hout hosm hoid herr hlt hj hg;go_upto_region 13 with (go_at_call 15;(with_reducible refine hap.mono ?_);rintro e w9 ⟨pi, ni, ci, Kx, rfl, hni, hst, hr, hkr, hok, hP9, hB9⟩;have H9 := Lib.hid (And.intro hni (And.intro hst (And.intro hr (And.intro hkr (And.intro hok (And.intro hP9 hB9))))));clear hap hni hst hr hkr hok hP9 hB9);have hba := below_alloc w9 (.cells #[.int .i64 out.err, .int .i64 out.place, .string out.tbl, .int .i64 0, .string e0] 33);have hnap := star_napply H9.out.2.2.2.2.2.1 hba H9.out.2.2.2.2.1 (mOps_ok j) Lz_sm (by rw[mOps_len];have := HJ.out;omega);rw[HO.out.1] at hnap;clear hba;go_upto_region 14 with (go_at_call 16;(with_reducible refine hnap.mono ?_);rintro e w11 ⟨pj, nj, cj, Kx2, rfl, hnj, hst2, hr2, hkr2, hP11, hB11⟩;have H11 := Lib.hid (And.intro hnj (And.intro hst2 (And.intro hr2 (And.intro hP11 hB11))));clear hnap hnj hst2 hr2 hkr2 hP11 hB11);have HT := Lib.hid (two_of (m := 105) H9.out.2.2.2.2.2.2 (Below.refl _ _) (fun q hq => hq) (fun q hq => (H9.out.2.1 q (.inl hq)).1) H9.out.2.2.1 H9.out.2.2.2.1 rfl H11.out.2.1 H11.out.2.2.1 H11.out.2.2.2.1 H11.out.2.2.2.2 HO.out.2.1 H9.out.1 H11.out.1);obtain rfl:nj = ni := HT.out.2;obtain⟨w12, hw12⟩:∃ x, w11.alloc (.cells #[.int .i64 out.err, .int .i64 out.place, .string out.tbl, .int .i64 0, .string e0] 33) = x := ⟨_, rfl⟩;obtain⟨F1, hF1⟩:∃ x, w9.heap.size = x := ⟨_, rfl⟩;obtain⟨F2, hF2⟩:∃ x, w11.heap.size = x := ⟨_, rfl⟩;have hT := HT.out.1;rw[hw12, hF1, hF2] at hT;have HT2 := Lib.hid hT;have c0 := nd_cell hT.f1 0;have c1' := nd_cell hT.f1 1;have c2 := nd_cell hT.f1 2;have c3 := nd_cell hT.f1 3;have c4 := nd_cell hT.f1 4;have cl := lt_of_heap hT.f1;have d0 := nd_cell hT.f2 0;have d1 := nd_cell hT.f2 1;have d2 := nd_cell hT.f2 2;have d3 := nd_cell hT.f2 3;have d4 := nd_cell hT.f2 4;have dl := lt_of_heap hT.f2;have HWX := Lib.hid (And.intro hw12 (And.intro hF1 hF2));clear hT hw12 hF1 hF2 HT;rw[HWX.out.1, HWX.out.2.1, HWX.out.2.2];have hf := eqfault_same out.err out.place 0 out.tbl e0 w12;have herr := HO.out.2.2.2;obtain⟨er, hee⟩:∃ x, out.err = x := ⟨_, rfl⟩;rw[hee] at herr;have HEE := Lib.hid hee;clear hee
      have hcase:(er = 0 /\ (j:Int)≥1 /\ (j:Int) <= 40) ∨ (er = 5 /\ ¬ (j:Int)≥1) ∨ (er = 5 /\ (j:Int)≥1 /\ ¬ (j:Int) <= 40) := by
        rw[herr];split
        · exact .inl ⟨rfl, by omega, by omega⟩
        · by_cases h1:1 <= j
          · exact .inr (.inr ⟨rfl, by omega, by omega⟩)
          · exact .inr (.inl ⟨rfl, by omega⟩)
      clear herr;rcases hcase with ⟨he, h1, h2⟩ | ⟨he, h1⟩ | ⟨he, h1, h2⟩
      all_goals
        subst he
        go_wp2_with (first
          | (go_at_call 17;(with_reducible refine hf.mono ?_);rintro e w13 ⟨rfl, hb13⟩;have H13 := Lib.hid (HT2.out.later hb13);have hi := eqids_same H13.out.r1 H13.out.r2 (by have := HO.out.2.2.1;omega);clear hf hb13 c0 c1' c2 c3 c4 cl d0 d1 d2 d3 d4 dl)
          | (go_at_call 18;(with_reducible refine hi.mono ?_);rintro e w14 ⟨rfl, hb14⟩;have H14 := Lib.hid (H13.out.later hb14);have c0 := nd_cell H14.out.f1 0;rw[HEE.out] at c0;have cl := lt_of_heap H14.out.f1;have hs := H14.out.rd.same H14.out.sm (by decide);clear hi hb14)
          | (go_at_call 19;(with_reducible refine hs.mono ?_);rintro e w15 ⟨rfl, hb15⟩;have H15 := Lib.hid (H14.out.later hb15);clear hs hb15))
        go_ret;refine⟨?_, below_on H4.out H15.out.bel⟩
        first
          | rfl
          | (have h3:decide ((j:Int)≥1) = false := decide_eq_false (by omega);simp[h3];done)
          | (have h3:decide ((j:Int) <= 40) = false := decide_eq_false (by omega);simp[h3];done)
          | (simp;omega)
