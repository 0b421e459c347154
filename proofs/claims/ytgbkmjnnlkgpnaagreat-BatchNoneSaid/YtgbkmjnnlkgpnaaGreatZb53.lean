/- The reference: Apply. batch: what the laws stand on. batch: the laws' first check. No tables: the law. -/
import Derived.Test.YtgbkmjnnlkgpnaaGreatZb52
import Derived.Test.YtgbkmjnnlkgpnaaGreatZb50
set_option maxHeartbeats 8000000
set_option maxRecDepth 100000
namespace Go.Proofs.YtgbkmjnnlkgpnaaGreat
open Go Go.RowKit Go.Proofs Co Co.S
theorem napply_any {K:Nat -> Prop} {W0 w0:World} {d b:Nat} {ts:List T} {ps:List Nat} {L1 L2:List PT} {tv:Value} {ops:List OpX} {m:Nat} (h:PD K W0 w0 d b ts ps L1 L2) (ho:OpsK K W0 tv ops) (hcs:∀ t ∈ ts, 0 < t.cols.length /\ t.cols.length <= 1000)
    (h1:∀ x ∈ L2, SmP m x) (hm:m + ops.length <= 390) (hops:∀ o ∈ ops, OpOk o) :
    Calls Tryz.prog 16 #[(Value.pointer (some ⟨b, 0, none⟩)), tv] w0 fun e w' => ∃ idv Kx, e = .returned (.tuple #[idv, fltV (applyB ts L2 ops).err (applyB ts L2 ops).place (applyB ts L2 ops).tbl 0 e0]) /\ (∀ q, K q -> Kx q) /\ Ro w' 0 idv (applyB ts L2 ops).ids /\ (∀ q, idv.ownBlock = some q -> Kx q) /\ PD Kx w' w' d b ts ps L1 (applyB ts L2 ops).rows /\ PD K W0 w' d b ts ps L1 (applyB ts L2 ops).rows := by
  obtain⟨p, cap, rfl⟩ := ho.sl;have hread :=(fun {j:Nat} (hj:j < ops.length) => ho.rd j hj);obtain⟨n, hn⟩:∃ n, ops.length = n := ⟨_, rfl⟩;have HREAD:Hid (∀ j (hj:j < ops.length), _) := Lib.hid (fun j hj => hread hj);have hb1 := below_alloc w0 (.cells zF 33);have k1 := heap_alloc_new w0 (.cells zF 33);obtain⟨w1, hw1⟩:∃ w1, w0.alloc (.cells zF 33) = w1 := ⟨_, rfl⟩;obtain⟨R, hR⟩:∃ R, w0.heap.size = R := ⟨_, rfl⟩;have hz1:w1.heap.size = R + 1 := by rw[<- hw1, <- hR, World.size_alloc]
  have hlo:W0.heap.size <= R := by
    obtain⟨_, _, ⟨_, _, _, _, _, _, _, hT⟩, _⟩ := h;rw[<- hR];exact hT.size
  rw[hw1] at hb1 k1;have hP1 := h.with hb1;have hA1:ApK K W0 d b ts ps R [] (.slice none 0 0) (fun q => K q ∨ (w0.heap.size <= q /\ q < w1.heap.size)) w1 := ⟨fun q hq => .inl hq, .inr ⟨by omega, by omega⟩, by rw[<- hR];exact k1, HRow.nil, fun q hq => (by cases hq), fun w2 X Y h2 => (h.later hb1).back h2 (fun q hq => .inl hq), hlo⟩;obtain⟨K1, hK1⟩:∃ K1:Nat -> Prop, (fun q => K q ∨ (w0.heap.size <= q /\ q < w1.heap.size)) = K1 := ⟨_, rfl⟩;rw[hK1] at hP1 hA1;rw[hR] at k1;have HF := Lib.hid (And.intro trivial (And.intro trivial (And.intro hcs (And.intro hm (And.intro hops hn)))));have H1 := Lib.hid (And.intro hA1 (And.intro hP1 (And.intro h1 (And.intro k1 (And.intro hw1 hR)))));obtain⟨out, hout⟩:∃ out, applyB ts L2 ops = out := ⟨_, rfl⟩;rw[hout, hn];have HOUT := Lib.hid hout
  have FIN:Hid (∀ (w2 wz:World) (ids:List Int) (idv:Value) (Kx:Nat -> Prop) (wx:World) (X Y:List PT) (v0 v1 v2 v3 v4:Value), ApK K W0 d b ts ps R ids idv Kx wx -> PD Kx wx w2 d b ts ps X Y -> ((((w2.setCell ⟨R, 0, none⟩ v0).setCell ⟨R, 1, none⟩ v1).setCell ⟨R, 2, none⟩ v2).setCell ⟨R, 3, none⟩ v3).setCell ⟨R, 4, none⟩ v4 = wz ->
      (wz.cell? ⟨R, 0, none⟩ = some v0 /\ wz.cell? ⟨R, 1, none⟩ = some v1 /\ wz.cell? ⟨R, 2, none⟩ = some v2 /\ wz.cell? ⟨R, 3, none⟩ = some v3 /\ wz.cell? ⟨R, 4, none⟩ = some v4) /\ ∃ Kx', (∀ q, K q -> Kx' q) /\ Ro wz 0 idv ids /\ (∀ q, idv.ownBlock = some q -> Kx' q) /\ PD Kx' wz wz d b ts ps X Y /\ PD K W0 wz d b ts ps X Y) := Lib.hid (by
    rintro w2 wz ids idv Kx wx X Y v0 v1 v2 v3 v4 hA hP rfl;have hr := (hP.still hA.kr).trans hA.r;have h5 := set5 hr v0 v1 v2 v3 v4;refine⟨⟨nd_cell h5 0, nd_cell h5 1, nd_cell h5 2, nd_cell h5 3, nd_cell h5 4⟩, ?_⟩;obtain⟨Kx', q1, q2, q3, q4, q5⟩ := hA.fin hP (grown_set5 w2 R v0 v1 v2 v3 v4);exact⟨Kx', q1, q2.mono (Nat.zero_le _), q3, q4, q5⟩)
  have CELLS:Hid (∀ (w2:World) (ids:List Int) (idv:Value) (Kx:Nat -> Prop) (wx:World) (X Y:List PT), ApK K W0 d b ts ps R ids idv Kx wx -> PD Kx wx w2 d b ts ps X Y -> w2.heap[R]? = some (.cells zF 33)) := Lib.hid (fun w2 ids idv Kx wx X Y hA hP => (hP.still hA.kr).trans hA.r);clear h ho hcs h1 hm hops hn hread hb1 k1 hw1 hz1 hR hlo hP1 hA1 hK1 hout;have hni:(n:Int) <= 390 :=(by have h1 := HF.out.2.2.2.1;have h2 := HF.out.2.2.2.2.2;omega);go_enter Tryz.func16, Tryz.ntmps16;go_upto_region 1 with fail;rw[H1.out.2.2.2.2.1, H1.out.2.2.2.2.2];by_cases hlim:n = 0 ∨ 40 < n
  · obtain rfl:(⟨L2, [], 5, 0, e0⟩:Out) = out := by
      have h1 := HOUT.out;unfold applyB at h1;rw[if_pos (by rw[HF.out.2.2.2.2.2];exact hlim)] at h1;exact h1
    have hc := CELLS.out _ _ _ _ _ _ _ H1.out.1 H1.out.2.1;have x0 := nd_cell hc 0;have x1 := nd_cell hc 1;have x2 := nd_cell hc 2;have x3 := nd_cell hc 3;have x4 := nd_cell hc 4;have xf :=(fun i => frozen_of_row w1 R i _ _ hc);have xl := lt_of_heap hc;clear hc;rcases hlim with rfl|hlim
    · go_wp2_with fail
      generalize hwz:((((World.setCell _ _ _).setCell _ _).setCell _ _).setCell _ _).setCell _ _ = wz;obtain⟨⟨y0, y1, y2, y3, y4⟩, Kx', q1, q2, q3, q4, q5⟩ := FIN.out _ _ _ _ _ _ _ _ _ _ _ _ _ H1.out.1 H1.out.2.1 hwz;refine bodyPost_ret (v := .tuple #[.slice none 0 0, fltV 5 0 e0 0 e0]) (by simp[results, Tryz.results16, go_sem, y0, y1, y2, y3, y4]) rfl ?_;exact⟨_, rfl, Kx', q1, q2, q3, q4, q5⟩
    · have hb0:((n:Int)==0) = false := beq_eq_false_iff_ne.2 (by omega)
      have hb1:(n:Int)>40 :=(by omega);go_wp2_with fail;generalize hwz:((((World.setCell _ _ _).setCell _ _).setCell _ _).setCell _ _).setCell _ _ = wz;obtain⟨⟨y0, y1, y2, y3, y4⟩, Kx', q1, q2, q3, q4, q5⟩ := FIN.out _ _ _ _ _ _ _ _ _ _ _ _ _ H1.out.1 H1.out.2.1 hwz;refine bodyPost_ret (v := .tuple #[.slice none 0 0, fltV 5 0 e0 0 e0]) (by simp[results, Tryz.results16, go_sem, y0, y1, y2, y3, y4]) rfl ?_;exact⟨_, rfl, Kx', q1, q2, q3, q4, q5⟩
  · have hb0:((n:Int)==0) = false := beq_eq_false_iff_ne.2 (by omega)
    have hb1:¬ (n:Int)>40 := by omega
    have hrun:runB ts L2 0 [] (ops.drop 0) = out := by
      have h1 := HOUT.out;unfold applyB at h1;rw[if_neg (by rw[HF.out.2.2.2.2.2];exact hlim)] at h1;exact h1
    have HRUN := Lib.hid hrun;clear hrun hlim;go_wp2_with fail;go_loopg [6, 7] (n + 1) (fun gh iv jv w => ∃ (j:Nat) (L:List PT) (ids:List Int) (Kx:Nat -> Prop) (wx:World), jv = .int .i64 (j:Int) /\ j <= n /\ n + 1 <= j + gh /\ runB ts L j ids (ops.drop j) = out /\ (∀ x ∈ L, SmP (m + j) x) /\ ids.length <= j /\ ApK K W0 d b ts ps R ids iv Kx wx /\ PD Kx wx w d b ts ps L1 L)
    case atStart => exact⟨0, L2, [], K1, w1, rfl, Nat.zero_le _, by omega, HRUN.out, H1.out.2.2.1, Nat.le_refl _, H1.out.1, H1.out.2.1⟩
    case round =>
      obtain⟨j, L, ids, Kx, wx, rfl, hj, hg, hrun, hsm, hidl, hA, hPD⟩ := hrel;by_cases hlt:j < n
      · have hji:(j:Int) < (n:Int) := by omega
        have hjo:j < ops.length :=(by rw[HF.out.2.2.2.2.2];exact hlt);obtain⟨g, cap', vv, etv, hrd⟩ := HREAD.out j hjo;obtain⟨rfl, rfl⟩:p = some ⟨g, 0, none⟩ /\ cap = cap' :=(by cases etv;exact⟨rfl, rfl⟩);obtain⟨⟨c0, c1, c2, c3, c4, gl⟩, hv⟩ := hrd wr (fun q hq => (hA.back _ _ _ hPD).still hq);obtain⟨pv, cv, rfl, _, _⟩ := hv.slice;have hok := HF.out.2.2.2.2.1 _ (List.getElem_mem hjo);have hm3:m + j <= 390 :=(by have h1 := HF.out.2.2.2.1;have h2 := HF.out.2.2.2.2.2;omega);have hyes := runB_ok (ts := ts) (L := L) (ids := ids) (k := j) hjo;have hno := runB_no (ts := ts) (L := L) (ids := ids) (k := j) hjo;rw[hrun] at hyes hno;obtain⟨o, ho⟩:∃ o, ops[j] = o := ⟨_, rfl⟩;simp only[ho] at c0 c1 c2 c3 c4 hv hok hyes hno;have hba := below_alloc wr (.cells #[.int .i64 o.dO, .string o.tbl, .int .i64 o.id, .string o.col, .slice pv o.vals.length cv] 47);have hna := heap_alloc_new wr (.cells #[.int .i64 o.dO, .string o.tbl, .int .i64 o.id, .string o.col, .slice pv o.vals.length cv] 47);obtain⟨hA1, hP1⟩ := hA.next hPD hba;have hdo := one_any hP1 HF.out.2.2.1 hsm hm3 hok ((hv.later hba).mono (fun q _ hq => .inl (hA.kk q hq))) (fun q hq => hq);have hsm2 := do1_sm (ts := ts) (o := o) hsm;obtain⟨k, hk⟩:∃ k, o.vals.length = k := ⟨_, rfl⟩;rw[hk] at c4 hba hna hA1 hP1 hdo;obtain⟨V, hV⟩:∃ V, wr.heap.size = V := ⟨_, rfl⟩;have hzV := World.size_alloc wr (.cells #[.int .i64 o.dO, .string o.tbl, .int .i64 o.id, .string o.col, .slice pv k cv] 47);obtain⟨w3, hw3⟩:∃ w3, wr.alloc (.cells #[.int .i64 o.dO, .string o.tbl, .int .i64 o.id, .string o.col, .slice pv k cv] 47) = w3 := ⟨_, rfl⟩;rw[hw3] at hba hna hA1 hP1 hdo hzV;rw[hV] at hna hA1 hP1 hdo hzV;obtain⟨K3, hK3⟩:∃ K':Nat -> Prop, (fun q => Kx q ∨ (V <= q /\ q < w3.heap.size)) = K' := ⟨_, rfl⟩;have hKV:K3 V :=(by rw[<- hK3];exact .inr ⟨Nat.le_refl _, by omega⟩);rw[hK3] at hA1 hP1 hdo;obtain⟨r1, hr1⟩:∃ r, (doE ts L o).1 = r := ⟨_, rfl⟩;obtain⟨r2, hr2⟩:∃ r, (doE ts L o).2 = r := ⟨_, rfl⟩;obtain⟨L', hL'⟩:∃ r, do1 ts L o = r := ⟨_, rfl⟩;rw[hr1, hr2, hL'] at hdo;rw[hr1, hr2, hL'] at hyes;rw[hr2, hL'] at hno;rw[hL'] at hsm2;have y0 := nd_cell hna 0;have y1 := nd_cell hna 1;have y2 := nd_cell hna 2;have y3 := nd_cell hna 3;have y4 := nd_cell hna 4;have yl := lt_of_heap hna;have HW3 := Lib.hid (And.intro hw3 hV);have HQ := Lib.hid (And.intro hA1 (And.intro hyes (And.intro hno (And.intro hKV (And.intro hna (And.intro hsm2 (And.intro hidl ho)))))));clear hrd etv hv hok hyes hno hba hna hA hA1 hP1 hPD hrun hsm hsm2 hidl hm3 hzV hw3 hV hK3 hKV hk hr1 hr2 hL' ho;go_upto_region 8 with fail;rw[HW3.out.1, HW3.out.2];clear c0 c1 c2 c3 c4 gl;go_upto_region 9 with (go_at_call 44;(with_reducible refine hdo.mono ?_);rintro e w4 ⟨rfl, hP4⟩;have HP4 := Lib.hid (And.intro hP4 ((hP4.still HQ.out.2.2.2.1).trans HQ.out.2.2.2.2.1));clear hdo hP4);clear y0 y1 y2 y3 y4 yl;have z0 := nd_cell HP4.out.2 0;have z1 := nd_cell HP4.out.2 1;have zl := lt_of_heap HP4.out.2;by_cases he:r2 = 0
        · subst he
          go_upto_region 11 with fail;have hrun := HQ.out.2.1 rfl;by_cases hd:o.dO = 1
          · rw[if_pos hd] at hrun
            rw[hd] at z0;have HD := Lib.hid (And.intro hd hrun);clear hd hrun;obtain⟨hA1, _⟩ := HQ.out;obtain⟨g', cap2, w5, hrun5, hr5, hg5, ho5⟩ := app_int 30 Tryz.underlying30 w4 (R + 1) (n := ids.length) rfl (hA1.row.of (w' := w4) (fun q hq => HP4.out.1.still (hA1.kb q hq))) (by have := HQ.out.2.2.2.2.2.2.1;omega) (by have h1 := (CELLS.out _ _ _ _ _ _ _ hA1 HP4.out.1);have := lt_of_heap h1;omega) r1;obtain⟨Kx5, hA5, hP5⟩ := hA1.app HP4.out.1 hr5 hg5 (fun q hq => by cases hq;exact ho5);have H5 := Lib.hid (And.intro hA5 hP5);clear hr5 hg5 ho5 hA5 hP5 hA1;go_wp2_with (at_builtin;refine wpList_append_run rfl (.tmp 46) (.tmp 48) 30 rfl rfl rfl hrun5 ?_);go_roundg (n-j)
            case measure => omega
            case rel => exact⟨j + 1, L', ids++[r1], Kx5, w5, by go_num, by omega, by omega, HD.out.2.symm, HQ.out.2.2.2.2.2.1, by rw[List.length_append];have := HQ.out.2.2.2.2.2.2.1;show ids.length + 1 <= j + 1;omega, H5.out.1, H5.out.2⟩
          · rw[if_neg hd] at hrun
            have hb:(o.dO==1) = false := beq_eq_false_iff_ne.2 hd;have HD := Lib.hid hrun;clear hd hrun;go_wp2_with fail;go_roundg (n-j)
            case measure => omega
            case rel => exact⟨j + 1, L', ids, K3, w3, by go_num, by omega, by omega, HD.out.symm, HQ.out.2.2.2.2.2.1, by have := HQ.out.2.2.2.2.2.2.1;omega, HQ.out.1, HP4.out.1⟩
        · have hb:(r2 != 0) = true := by simp[he]
          obtain rfl := HQ.out.2.2.1 he;clear he;go_upto_region 10 with fail;clear z0;refine Par.wp_region_par 6 [.int .i64 r2, .int .i64 (j:Int), (Value.pointer (some ⟨V, 1, none⟩)), .string o.tbl, fltV r2 (j:Int) o.tbl 0 e0, .slice none 0 0] (fun w => Below w4.heap.size w4 w) ?A1 ?hm1 ?hB1 ?hA1 ((below_drew w4)) ?hop1 ?hT1
          case hm1 => kernel_rfl
          case hB1 => kernel_rfl
          case hA1 =>
            simp only[Par.putA, Par.dstAt, Act.put, List.getElem?_toArray, List.getElem?_cons_zero, List.getElem?_cons_succ, Option.bind_some, List.setIfInBounds_toArray, List.set_cons_zero, List.set_cons_succ, List.getD_cons_zero, List.getD_cons_succ];rfl
          case hop1 =>
            simp only[List.take_succ_cons, List.take_zero, Par.GiveAll, and_true];refine⟨fun w' hR => ?_, fun w' hR => ?_, fun w' hR => ?_, fun w' hR => ?_, fun w' hR => ?_, fun w' hR => ?_⟩
            · have HR := Lib.hid hR
              clear hR;simp only[Par.Gives];go_simp;all_goals exact HR.out
            · have HR := Lib.hid hR
              clear hR;simp only[Par.Gives];go_simp;all_goals exact HR.out
            · have HR := Lib.hid hR
              have zl := lt_of_heap (heap_on hR HP4.out.2);clear hR;simp only[Par.Gives];go_simp;all_goals exact HR.out
            · have HR := Lib.hid hR
              have z1 := nd_cell (heap_on hR HP4.out.2) 1;clear hR;simp only[Par.Gives];go_simp;all_goals exact HR.out
            · have HR := Lib.hid hR
              clear hR;simp only[Par.Gives];go_simp;all_goals exact HR.out
            · have HR := Lib.hid hR
              clear hR;simp only[Par.Gives];go_simp;all_goals exact HR.out
          case hT1 =>
            intro w' hR;simp only[List.drop_succ_cons, List.drop_zero];have hP5 := HP4.out.1.later hR;have hc := CELLS.out _ _ _ _ _ _ _ HQ.out.1 hP5;have x0 := nd_cell hc 0;have x1 := nd_cell hc 1;have x2 := nd_cell hc 2;have x3 := nd_cell hc 3;have x4 := nd_cell hc 4;have xf :=(fun i => frozen_of_row w' R i _ _ hc);have xl := lt_of_heap hc;have HP5 := Lib.hid hP5;clear hR hP5 hc z1 zl;go_wp2_with fail;generalize hwz:((((World.setCell _ _ _).setCell _ _).setCell _ _).setCell _ _).setCell _ _ = wz;obtain⟨⟨y0, y1, y2, y3, y4⟩, Kx', q1, q2, q3, q4, q5⟩ := FIN.out _ _ [] (.slice none 0 0) _ _ _ _ _ _ _ _ _ ⟨HQ.out.1.kk, HQ.out.1.kr, HQ.out.1.r, HRow.nil, fun q hq => (by cases hq), HQ.out.1.back, HQ.out.1.lo⟩ HP5.out hwz;refine bodyPost_ret (v := .tuple #[.slice none 0 0, fltV r2 (j:Int) o.tbl 0 e0]) (by simp[results, Tryz.results16, go_sem, y0, y1, y2, y3, y4]) rfl ?_;exact⟨_, rfl, Kx', q1, q2, q3, q4, q5⟩
      · obtain rfl:j = n := by omega
        rw[runB_end (by rw[HF.out.2.2.2.2.2];exact Nat.le_refl _)] at hrun;subst hrun;have hc := CELLS.out _ _ _ _ _ _ _ hA hPD;have x0 := nd_cell hc 0;have x1 := nd_cell hc 1;have x2 := nd_cell hc 2;have x3 := nd_cell hc 3;have x4 := nd_cell hc 4;have xf :=(fun i => frozen_of_row wr R i _ _ hc);have xl := lt_of_heap hc;obtain⟨pi, ci, rfl, _, _⟩ := HRow.isslice hA.row;have HA := Lib.hid (And.intro hA hPD);clear hA hPD hc hsm;go_wp2_with fail;generalize hwz:((((World.setCell _ _ _).setCell _ _).setCell _ _).setCell _ _).setCell _ _ = wz;obtain⟨⟨y0, y1, y2, y3, y4⟩, Kx', q1, q2, q3, q4, q5⟩ := FIN.out _ _ _ _ _ _ _ _ _ _ _ _ _ HA.out.1 HA.out.2 hwz;refine bodyPost_ret (v := .tuple #[.slice pi ids.length ci, fltV 0 0 e0 0 e0]) (by simp[results, Tryz.results16, go_sem, y0, y1, y2, y3, y4]) rfl ?_;exact⟨_, rfl, Kx', q1, q2, q3, q4, q5⟩
end Go.Proofs.YtgbkmjnnlkgpnaaGreat
namespace Go.Proofs.YtgbkmjnnlkgpnaaGreat
open Go Go.RowKit Go.Proofs Co Co.S
theorem HRow.lit {w:World} {g n size base:Nat} {e:TypeId} {cs:Array Value} {xs:List Value} (h:w.heap[g]? = some (.cells cs e)) (hcs:cs.toList = xs) (hl:xs.length = n * size) (hb:base <= g) (hn:n <= maxLen):HRow w base e size (.slice (some ⟨g, 0, none⟩) n n) n xs := by
  have e1:cs.size = n * size :=(by rw[<- hl, <- hcs, Array.length_toList]);exact⟨hl, .inr ⟨g, n, cs, rfl, hb, h, Nat.le_refl _, hn, Nat.le_of_eq e1.symm, by rw[hcs, <- hl, List.take_length]⟩⟩
theorem opsO_2 {w:World} {base g:Nat} {v1 v2:Value} {o1 o2:OpX} {cs:Array Value} (hg:w.heap[g]? = some (.cells cs 47)) (hcs:cs.toList = opC o1 v1++opC o2 v2) (hb:base <= g) (h1:HRow w base 42 3 v1 o1.vals.length (cells3 o1.vals)) (h2:HRow w base 42 3 v2 o2.vals.length (cells3 o2.vals)):OpsO w base (.slice (some ⟨g, 0, none⟩) 2 2) [o1, o2] := by
  refine⟨[v1, v2], rfl, HRow.lit hg (by rw[hcs];simp[cellsO]) rfl hb (by unfold maxLen;omega), fun j hj => ?_⟩;have hj:j < 2 := hj;rcases (show j = 0 ∨ j = 1 by omega) with rfl|rfl
  · exact⟨v1, rfl, h1⟩
  · exact⟨v2, rfl, h2⟩
section
variable {ts:List T}
theorem runB_ids:∀ {l:List OpX} {L:List PT} {k:Nat} {ids:List Int}, (runB ts L k ids l).ids.length <= ids.length + l.length
  | [], L, k, ids => by rw[runB];exact Nat.le_refl _
  | o::l, L, k, ids => by
    rw[runB];split
    · refine Nat.le_trans runB_ids ?_
      rw[List.length_cons];split
      · rw[List.length_append, List.length_singleton];omega
      · omega
    · exact Nat.zero_le _
theorem applyB_ids {L:List PT} {l:List OpX}:(applyB ts L l).ids.length <= l.length := by
  unfold applyB;split
  · exact Nat.zero_le _
  · have := runB_ids (ts := ts) (l := l) (L := L) (k := 0) (ids := [])
    rw[List.length_nil, Nat.zero_add] at this;exact this
end
section
variable {W w w1:World} {K:Nat -> Prop} {W0:World} {d b m:Nat} {ps:List Nat} {L1 L2:List PT} {tv:Value} {ops:List OpX}
/-- batch.Apply of operations just made. -/
theorem star_apply (h:PD K W0 w d b (pre 4) ps L1 L2) (hb:Below w.heap.size w w1) (ho:OpsO w1 w.heap.size tv ops) (hok:∀ o ∈ ops, OpOk o) (h1:∀ x ∈ L1, SmP m x) (hm:m + ops.length <= 390) :
    Calls Tryz.prog 15 #[(Value.pointer (some ⟨d, 0, none⟩)), tv] w1 fun e w' => ∃ p n c Kx, e = .returned (.tuple #[.slice p n c, fltV (applyB (pre 4) L1 ops).err (applyB (pre 4) L1 ops).place (applyB (pre 4) L1 ops).tbl 0 e0]) /\ n = (applyB (pre 4) L1 ops).ids.length /\ (∀ q, (K q ∨ (w.heap.size <= q /\ q < w1.heap.size)) -> Kx q /\ w'.heap[q]? = w1.heap[q]?) /\ Ro w' 0 (.slice p n c) (applyB (pre 4) L1 ops).ids /\ (∀ q, (Value.slice p n c).ownBlock = some q -> Kx q) /\ OpsK Kx w' tv ops /\ PD Kx w' w' d b (pre 4) ps (applyB (pre 4) L1 ops).rows L2 /\ PD K W0 w' d b (pre 4) ps (applyB (pre 4) L1 ops).rows L2 := by
  have hw := h.with hb;have hk:OpsK (fun q => K q ∨ (w.heap.size <= q /\ q < w1.heap.size)) w1 tv ops := OpsK.of ho (fun q h1 h2 => .inr ⟨h1, h2⟩);refine (apply_any hw hk (pre_few 4) star_short star_c h1 hm hok).mono ?_;rintro e w' ⟨idv, Kx, rfl, a1, a2, a3, a4, a5⟩;obtain⟨p, c, rfl, _, _⟩ := HRow.isslice a2;exact⟨p, _, c, Kx, rfl, rfl, fun q hq => ⟨a1 q hq, a5.still hq⟩, a2, a3, hk.move a1 (fun q hq => a5.still hq), a4, (h.later hb).back a5 (fun q hq => .inl hq)⟩
/-- The same, where it is known what comes of it. -/
theorem star_applyE (h:PD K W0 w d b (pre 4) ps L1 L2) (hb:Below w.heap.size w w1) (ho:OpsO w1 w.heap.size tv ops) (hok:∀ o ∈ ops, OpOk o) (h1:∀ x ∈ L1, SmP m x) (hm:m + ops.length <= 390) {R:List PT} {I:List Int} {er pl:Int} {t:ByteArray} {n:Nat} (hout:applyB (pre 4) L1 ops = ⟨R, I, er, pl, t⟩) (hn:I.length = n) :
    Calls Tryz.prog 15 #[(Value.pointer (some ⟨d, 0, none⟩)), tv] w1 fun e w' => ∃ p c Kx, e = .returned (.tuple #[.slice p n c, fltV er pl t 0 e0]) /\ (∀ q, (K q ∨ (w.heap.size <= q /\ q < w1.heap.size)) -> Kx q /\ w'.heap[q]? = w1.heap[q]?) /\ Ro w' 0 (.slice p n c) I /\ (∀ q, (Value.slice p n c).ownBlock = some q -> Kx q) /\ PD Kx w' w' d b (pre 4) ps R L2 /\ PD K W0 w' d b (pre 4) ps R L2 := by
  have := star_apply h hb ho hok h1 hm;rw[hout] at this;refine this.mono ?_;rintro e w' ⟨p, n', c, Kx, rfl, hn', a1, a2, a3, _, a5, a6⟩;have e:n' = n := hn'.trans hn;subst e;exact⟨p, c, Kx, rfl, a1, a2, a3, a5, a6⟩
/-- The reference's, of operations that lie still. -/
theorem star_napply (h:PD K w w d b (pre 4) ps L1 L2) (hb:Below w.heap.size w w1) (ho:OpsK K w tv ops) (hok:∀ o ∈ ops, OpOk o) (h1:∀ x ∈ L2, SmP m x) (hm:m + ops.length <= 390) :
    Calls Tryz.prog 16 #[(Value.pointer (some ⟨b, 0, none⟩)), tv] w1 fun e w' => ∃ p n c Kx, e = .returned (.tuple #[.slice p n c, fltV (applyB (pre 4) L2 ops).err (applyB (pre 4) L2 ops).place (applyB (pre 4) L2 ops).tbl 0 e0]) /\ n = (applyB (pre 4) L2 ops).ids.length /\ (∀ q, (K q ∨ (w.heap.size <= q /\ q < w1.heap.size)) -> Kx q /\ w'.heap[q]? = w1.heap[q]?) /\ Ro w' 0 (.slice p n c) (applyB (pre 4) L2 ops).ids /\ (∀ q, (Value.slice p n c).ownBlock = some q -> Kx q) /\ PD Kx w' w' d b (pre 4) ps L1 (applyB (pre 4) L2 ops).rows /\ PD (fun q => K q ∨ (w.heap.size <= q /\ q < w1.heap.size)) w1 w' d b (pre 4) ps L1 (applyB (pre 4) L2 ops).rows := by
  have hw := h.with hb;have hk:OpsK (fun q => K q ∨ (w.heap.size <= q /\ q < w1.heap.size)) w1 tv ops := ho.move (fun q hq => .inl hq) (fun q hq => hb.block q (h.klt hq));refine (napply_any hw hk star_c h1 hm hok).mono ?_;rintro e w' ⟨idv, Kx, rfl, a1, a2, a3, a4, a5⟩;obtain⟨p, c, rfl, _, _⟩ := HRow.isslice a2;exact⟨p, _, c, Kx, rfl, rfl, fun q hq => ⟨a1 q hq, a5.still hq⟩, a2, a3, a4, a5⟩
end
abbrev sA:ByteArray := ⟨#[97]⟩
abbrev sB:ByteArray := ⟨#[98]⟩
abbrev bOps1:List OpX := [⟨1, sLand, 0, e0, [(1, 5, e0), (2, 0, sA)]⟩, ⟨3, sLand, 0, sName, [(2, 0, sB)]⟩]
abbrev bOps2:List OpX := [⟨2, sLand, 0, e0, []⟩, ⟨2, sLand, 0, e0, []⟩]
abbrev bR1:List PT := [(1, [(0, [(1, 5, e0), (2, 0, sB)])]), (0, []), (0, []), (0, [])]
abbrev bR2:List PT := [(1, []), (0, []), (0, []), (0, [])]
theorem b13_1:applyB (pre 4) Lz bOps1 = ⟨bR1, [0], 0, 0, e0⟩ := by kernel_rfl
theorem b13_2:applyB (pre 4) bR1 bOps2 = ⟨bR2, [], 6, 1, sLand⟩ := by kernel_rfl
theorem b13_3:applyB (pre 4) bR2 [] = ⟨bR2, [], 5, 0, e0⟩ := by kernel_rfl
theorem bR1_sm:∀ x ∈ bR1, SmP 1 x := fun x hx => by
  have h:x = (1, [(0, [(1, 5, e0), (2, 0, sB)])]) ∨ x = (0, []) :=(by simpa using hx);rcases h with rfl|rfl
  · exact⟨by decide, by decide⟩
  · exact⟨by decide, by decide⟩
theorem bR2_sm:∀ x ∈ bR2, SmP 1 x := fun x hx => by
  have h:x = (1, []) ∨ x = (0, []) :=(by simpa using hx);rcases h with rfl|rfl
  · exact⟨by decide, by decide⟩
  · exact⟨by decide, by decide⟩
end Go.Proofs.YtgbkmjnnlkgpnaaGreat
namespace Go.Proofs.YtgbkmjnnlkgpnaaGreat
open Go Go.RowKit Go.Proofs Co Co.S
theorem opok_b {k:Int} {tb col:ByteArray} {v:List T3} (h1:tb.size <= 100) (h2:col.size <= 100) (h3:∀ x ∈ v, x.2.2.size <= 100) (h4:v.length <= 10):OpOk ⟨k, tb, 0, col, v⟩ :=
  ⟨by unfold F64;exact⟨by show (-9223372036854775808:Int) <= 0;decide, by show (0:Int) <= 9223372036854775807;decide⟩, Nat.le_trans h1 (by unfold maxLen;omega), Nat.le_trans h2 (by unfold maxLen;omega), fun x hx => Nat.le_trans (h3 x hx) (by unfold maxLen;omega), Nat.le_trans h4 (by omega)⟩
theorem bOps1_ok:∀ o ∈ bOps1, OpOk o := fun o ho => by
  have h:o = ⟨1, sLand, 0, e0, [(1, 5, e0), (2, 0, sA)]⟩ ∨ o = ⟨3, sLand, 0, sName, [(2, 0, sB)]⟩ :=(by simpa using ho);rcases h with rfl|rfl
  · exact opok_b (by decide) (by decide) (by decide) (by decide)
  · exact opok_b (by decide) (by decide) (by decide) (by decide)
theorem bOps2_ok:∀ o ∈ bOps2, OpOk o := fun o ho => by
  have h:o = ⟨2, sLand, 0, e0, []⟩ :=(by simpa using ho);rcases h with rfl;exact opok_b (by decide) (by decide) (by decide) (by decide)
theorem begun12_pub (W:World):Calls Tryz.prog 30 #[] W fun e w' => e = .returned (.bool true) /\ Below W.heap.size W w' := by
  have h := begun12_any W;go_enter Tryz.func30, Tryz.ntmps30;go_wp2_with (go_at_call 56;(with_reducible refine h.mono ?_);rintro e w' ⟨rfl, hb⟩);go_ret;exact⟨rfl, hb⟩
abbrev bC1:Array Value := #[.int .i64 1, .int .i64 5, .string e0, .int .i64 2, .int .i64 0, .string sA]
abbrev bC2:Array Value := #[.int .i64 2, .int .i64 0, .string sB]
abbrev bO1 (g1 g2:Nat):Array Value := #[.int .i64 1, .string sLand, .int .i64 0, .string e0, .slice (some ⟨g1, 0, none⟩) 2 2, .int .i64 3, .string sLand, .int .i64 0, .string sName, .slice (some ⟨g2, 0, none⟩) 1 1]
abbrev bO2:Array Value := #[.int .i64 2, .string sLand, .int .i64 0, .string e0, .slice none 0 0, .int .i64 2, .string sLand, .int .i64 0, .string e0, .slice none 0 0]
section
variable {W w w1 w3 w4:World} {K:Nat -> Prop} {W0:World} {d b m:Nat} {ps:List Nat} {L1 L2:List PT}
theorem b13_w1 (h3:Below w.heap.size w w3) (h4:Below (w3.alloc (.cells bC1 42)).heap.size (w3.alloc (.cells bC1 42)) w4) :
    Below w.heap.size w ((w4.alloc (.cells bC2 42)).alloc (.cells (bO1 w3.heap.size w4.heap.size) 47)) /\ OpsO ((w4.alloc (.cells bC2 42)).alloc (.cells (bO1 w3.heap.size w4.heap.size) 47)) w.heap.size (.slice (some ⟨w4.heap.size + 1, 0, none⟩) 2 2) bOps1 := by
  have a1 := below_on h3 (below_alloc w3 (.cells bC1 42));have k1 := heap_alloc_new w3 (.cells bC1 42);have a2 := below_on a1 h4;have k1 := heap_on h4 k1;have b5 := below_alloc w4 (.cells bC2 42);have k2 := heap_alloc_new w4 (.cells bC2 42);have b6 := below_alloc (w4.alloc (.cells bC2 42)) (.cells (bO1 w3.heap.size w4.heap.size) 47);have k3 := heap_alloc_new (w4.alloc (.cells bC2 42)) (.cells (bO1 w3.heap.size w4.heap.size) 47);have k1 := heap_on b6 (heap_on b5 k1);have k2 := heap_on b6 k2;have e5:(w4.alloc (.cells bC2 42)).heap.size = w4.heap.size + 1 := World.size_alloc _ _;have l3 := h3.size;have l4 := a2.size;rw[e5] at k3;refine⟨below_on (below_on a2 b5) b6, opsO_2 (v1 := .slice (some ⟨w3.heap.size, 0, none⟩) 2 2) (v2 := .slice (some ⟨w4.heap.size, 0, none⟩) 1 1) k3 rfl (by omega) ?_ ?_⟩
  · exact HRow.lit k1 rfl rfl l3 (by unfold maxLen;decide)
  · exact HRow.lit k2 rfl rfl l4 (by unfold maxLen;decide)
theorem b13_w2 (v:Array Value):Below w.heap.size w ((w.alloc (.cells v 33)).alloc (.cells bO2 47)) /\ OpsO ((w.alloc (.cells v 33)).alloc (.cells bO2 47)) w.heap.size (.slice (some ⟨w.heap.size + 1, 0, none⟩) 2 2) bOps2 /\ ((w.alloc (.cells v 33)).alloc (.cells bO2 47)).heap[w.heap.size]? = some (.cells v 33) := by
  have b1 := below_alloc w (.cells v 33);have k1 := heap_alloc_new w (.cells v 33);have b2 := below_alloc (w.alloc (.cells v 33)) (.cells bO2 47);have k2 := heap_alloc_new (w.alloc (.cells v 33)) (.cells bO2 47);rw[World.size_alloc] at k2;exact⟨below_on b1 b2, opsO_2 (v1 := .slice none 0 0) (v2 := .slice none 0 0) k2 rfl (by omega) HRow.nil HRow.nil, heap_on b2 k1⟩
end
theorem begun13_any (W:World):Calls Tryz.prog 11 #[] W fun e w' => e = .returned (.bool true) /\ Below W.heap.size W w' := by
  have hstar := star_pd W;go_enter Tryz.func11, Tryz.ntmps11;go_upto_region 2 with (go_at_call 12;(with_reducible refine hstar.mono ?_);rintro e w1 ⟨d, b, ps, rfl, hP⟩;clear hstar)
  obtain⟨p0, p1, p2, p3, rfl⟩:∃ p0 p1 p2 p3, ps = [p0, p1, p2, p3] := by
    have := hP.len.1
    match ps, this with
    | [a, b, c, d], _ => exact⟨a, b, c, d, rfl⟩
  have ht0:Calls Tryz.prog 29 #[(Value.pointer (some ⟨d, 0, none⟩)), .string sLand] w1 fun e w' => e = .returned (Value.pointer (some ⟨p0, 0, none⟩)) /\ w' = w1 := hP.table (j := 0) (by decide) (star_short _ (List.getElem_mem _)) (by decide:0 < 4)
  have HP1 := Lib.hid hP;clear hP;go_upto_region 4 with (go_at_call 29;(with_reducible refine ht0.mono ?_);rintro e w2 ⟨rfl, hw⟩;subst w2;clear ht0);have hnum := num_any 5 w1
  go_upto_region 5 with (first
    | (go_at_call 20;(with_reducible refine hnum.mono ?_);rintro e w2 ⟨rfl, hb2⟩;have H2 := Lib.hid hb2;have hta := text_any sA w2;clear hnum hb2)
    | (go_at_call 21;(with_reducible refine hta.mono ?_);rintro e w3 ⟨rfl, hb3⟩;have H3 := Lib.hid (below_on H2.out hb3);clear hta hb3)
    | (go_at_call 21;(with_reducible refine (text_any _ _).mono ?_);rintro e w4 ⟨rfl, hb4⟩;have hap := star_applyE HP1.out (b13_w1 H3.out hb4).1 (b13_w1 H3.out hb4).2 bOps1_ok Lz_sm (by decide) b13_1 (n := 1) rfl;clear hb4)
    | (go_at_call 15;(with_reducible refine hap.mono ?_);rintro e w5 ⟨pi, ci, K5, rfl, hst5, hr5, hk5, hP5, hB5⟩;have H5 := Lib.hid (And.intro hr5 (And.intro hk5 (And.intro hP5 hB5)));have HK5 := Lib.hid (fun q hq => (hst5 q (.inl hq)).1);clear hap hst5 hr5 hk5 hP5 hB5))
  have hw2 := b13_w2 (w := w5) zF;have hap := star_applyE H5.out.2.2.1 hw2.1 hw2.2.1 bOps2_ok bR1_sm (by decide) b13_2 (n := 0) rfl;have HW2 := Lib.hid hw2.2.2;have HB2 := Lib.hid hw2.1;clear hw2;go_upto_region 6 with (go_at_call 15;(with_reducible refine hap.mono ?_);rintro e w8 ⟨pj, cj, K8, rfl, hst8, _, _, hP8, hB8⟩;have H8 := Lib.hid (And.intro hst8 (And.intro hP8 hB8));clear hap hst8 hP8 hB8);have hb9 := below_alloc w8 (.cells #[.int .i64 6, .int .i64 1, .string sLand, .int .i64 0, .string e0] 33);have k9 := heap_alloc_new w8 (.cells #[.int .i64 6, .int .i64 1, .string sLand, .int .i64 0, .string e0] 33);have hap := star_applyE (ops := []) (tv := .slice none 0 0) H8.out.2.1 hb9 ⟨[], rfl, HRow.nil, fun j hj => absurd hj (Nat.not_lt_zero j)⟩ (fun o ho => by cases ho) bR2_sm (by decide) b13_3 (n := 0) rfl;have H9 := Lib.hid (And.intro hb9 k9);clear hb9 k9;go_upto_region 7 with (go_at_call 15;(with_reducible refine hap.mono ?_);rintro e w10 ⟨pk, ck, K10, rfl, hst10, _, _, _, hB10⟩;have H10 := Lib.hid (And.intro hst10 hB10);clear hap hst10 hB10);have hb11 := below_alloc w10 (.cells #[.int .i64 5, .int .i64 0, .string e0, .int .i64 0, .string e0] 33);have k11 := heap_alloc_new w10 (.cells #[.int .i64 5, .int .i64 0, .string e0, .int .i64 0, .string e0] 33);obtain⟨w11, hw11⟩:∃ x, w10.alloc (.cells #[.int .i64 5, .int .i64 0, .string e0, .int .i64 0, .string e0] 33) = x := ⟨_, rfl⟩;rw[hw11] at hb11 k11;rw[hw11]
  have hF1:w11.heap[w5.heap.size]? = some (.cells zF 33) := by
    have hl:w5.heap.size < ((w5.alloc (.cells zF 33)).alloc (.cells bO2 47)).heap.size :=(by rw[World.size_alloc, World.size_alloc];omega);have e8 := H8.out.1 w5.heap.size (.inr ⟨Nat.le_refl _, hl⟩);have k8 := e8.2.trans HW2.out;have e10 := H10.out.1 w5.heap.size (.inl e8.1);exact heap_on hb11 (e10.2.trans (heap_on H9.out.1 k8))
  have hF2:w11.heap[w8.heap.size]? = some (.cells #[.int .i64 6, .int .i64 1, .string sLand, .int .i64 0, .string e0] 33) := by
    have e10 := H10.out.1 w8.heap.size (.inr ⟨Nat.le_refl _, lt_of_heap H9.out.2⟩);exact heap_on hb11 (e10.2.trans H9.out.2)
  have h58:w5.heap.size <= w8.heap.size := by
    obtain⟨_, _, ⟨_, _, _, _, _, _, _, hT⟩, _⟩ := H8.out.2.2;exact hT.size
  have hrow:Ro w11 0 (.slice pi 1 ci) [0] := (H5.out.1.of (w' := w10) (fun q hq => by
    have hl := (HRow.lt H5.out.1 q hq).2;have e8 := H8.out.1 q (.inl (H5.out.2.1 q hq));have e10 := H10.out.1 q (.inl e8.1);exact e10.2.trans ((H9.out.1.block q (Nat.lt_of_lt_of_le hl h58)).trans (e8.2.trans (HB2.out.block q hl))))).later hb11
  have hbel:Below W.heap.size W w11 := below_on ((((H5.out.2.2.2.back H8.out.2.2 HK5.out).back H10.out.2 (fun q hq => (H8.out.1 q (.inl (HK5.out q hq))).1))).bel (Below.refl _ _) (fun q hq => hq)) hb11;have hbeg := begun12_pub w11;obtain⟨gi, ci', e, _, _⟩ := HRow.slice hrow (by decide);cases e;have HF := Lib.hid (And.intro hF1 (And.intro hF2 (And.intro k11 (And.intro hrow hbel))));obtain⟨F1, hg1⟩:∃ x, w5.heap.size = x := ⟨_, rfl⟩;obtain⟨F2, hg2⟩:∃ x, w8.heap.size = x := ⟨_, rfl⟩;obtain⟨F3, hg3⟩:∃ x, w10.heap.size = x := ⟨_, rfl⟩;rw[hg1, hg2, hg3] at HF;rw[hg1, hg2, hg3];clear hF1 hF2 k11 hrow hbel hw11 hb11 h58 hg1 hg2 hg3 H8 H9 H10 H5 HK5 HW2 HB2;go_wp2_with (go_at_call 30;(with_reducible refine hbeg.mono ?_);rintro e w12 ⟨rfl, hb12⟩;have c0 := nd_cell (heap_on hb12 HF.out.1) 0;have d0 := nd_cell (heap_on hb12 HF.out.2.1) 0;have d1 := nd_cell (heap_on hb12 HF.out.2.1) 1;have d2 := nd_cell (heap_on hb12 HF.out.2.1) 2;have f0 := nd_cell (heap_on hb12 HF.out.2.2.1) 0;have l1 := lt_of_heap (heap_on hb12 HF.out.1);have l2 := lt_of_heap (heap_on hb12 HF.out.2.1);have l3 := lt_of_heap (heap_on hb12 HF.out.2.2.1);have i0 := HRow.cell (HRow.later HF.out.2.2.2.1 hb12) (j := 0) rfl;have HB12 := Lib.hid (below_on HF.out.2.2.2.2 hb12);clear hbeg hb12);go_ret;exact⟨rfl, HB12.out⟩
end Go.Proofs.YtgbkmjnnlkgpnaaGreat
namespace Go.Proofs.YtgbkmjnnlkgpnaaGreat
open Go Go.RowKit Go.Proofs Co Co.S
theorem apply_fail {w0:World} {d g cap:Nat} {k id r1 r2:Int} {tb col:ByteArray} {vv:Value} (hr:∀ w, Below w0.heap.size w0 w -> w.cell? ⟨g, 0, none⟩ = some (.int .i64 k) /\ w.cell? ⟨g, 1, none⟩ = some (.string tb) /\ w.cell? ⟨g, 2, none⟩ = some (.int .i64 id) /\ w.cell? ⟨g, 3, none⟩ = some (.string col) /\ w.cell? ⟨g, 4, none⟩ = some vv /\ g < w.heap.size) (hvv:∃ p n c, vv = .slice p n c)
    (hdo:∀ w, Below w0.heap.size w0 w -> Calls Tryz.prog 43 #[(Value.pointer (some ⟨d, 0, none⟩)), .agg #[.int .i64 k, .string tb, .int .i64 id, .string col, vv]] w fun e w' => e = .returned (.tuple #[.int .i64 r1, .int .i64 r2]) /\ Below w.heap.size w w') (hne:r2 ≠ 0) :
    Calls Tryz.prog 15 #[(Value.pointer (some ⟨d, 0, none⟩)), .slice (some ⟨g, 0, none⟩) 1 cap] w0 fun e w' => e = .returned (.tuple #[.slice none 0 0, fltV r2 0 tb 0 e0]) /\ Below w0.heap.size w0 w' := by
  obtain⟨pv, nv, cv, rfl⟩ := hvv;have hb1 := below_alloc w0 (.cells zF 33);have k1 := heap_alloc_new w0 (.cells zF 33);obtain⟨w1, hw1⟩:∃ w1, w0.alloc (.cells zF 33) = w1 := ⟨_, rfl⟩;obtain⟨R, hR⟩:∃ R, w0.heap.size = R := ⟨_, rfl⟩;rw[hw1] at hb1 k1;rw[hR] at k1;have H1 := Lib.hid (And.intro hb1 (And.intro k1 (And.intro hw1 hR)));have HR := Lib.hid (And.intro hr hdo);have hb:(r2 != 0) = true :=(by simp[hne]);clear hb1 k1 hw1 hR hr hdo hne;go_enter Tryz.func15, Tryz.ntmps15;go_upto_region 1 with fail;rw[H1.out.2.2.1, H1.out.2.2.2];go_wp2_with fail;go_loopg [6, 22] 2 (fun gh iv jv w => jv = .int .i64 0 /\ 1 <= gh /\ w = w1)
  case atStart => exact⟨rfl, by omega, rfl⟩
  case round =>
    obtain⟨rfl, hg, rfl⟩ := hrel;obtain⟨c0, c1, c2, c3, c4, gl⟩ := HR.out.1 wr H1.out.1;have hba := below_alloc wr (.cells #[.int .i64 k, .string tb, .int .i64 id, .string col, .slice pv nv cv] 47);have hna := heap_alloc_new wr (.cells #[.int .i64 k, .string tb, .int .i64 id, .string col, .slice pv nv cv] 47);have hkr := heap_on hba H1.out.2.1;obtain⟨V, hV⟩:∃ V, wr.heap.size = V := ⟨_, rfl⟩;obtain⟨w3, hw3⟩:∃ w3, wr.alloc (.cells #[.int .i64 k, .string tb, .int .i64 id, .string col, .slice pv nv cv] 47) = w3 := ⟨_, rfl⟩;have hb3 := below_on H1.out.1 hba;rw[hw3] at hba hna hkr hb3;rw[hV] at hna;have hdo := HR.out.2 w3 hb3;have y0 := nd_cell hna 0;have y1 := nd_cell hna 1;have y2 := nd_cell hna 2;have y3 := nd_cell hna 3;have y4 := nd_cell hna 4;have yl := lt_of_heap hna;have H3 := Lib.hid (And.intro hw3 (And.intro hV (And.intro hna (And.intro hkr hb3))));clear hba hna hw3 hV hkr hb3;go_upto_region 7 with fail;rw[H3.out.1, H3.out.2.1];clear c0 c1 c2 c3 c4 gl;go_upto_region 8 with (go_at_call 43;(with_reducible refine hdo.mono ?_);rintro e w4 ⟨rfl, hb4⟩;have H4 := Lib.hid (And.intro (below_on H3.out.2.2.2.2 hb4) (And.intro (heap_on hb4 H3.out.2.2.1) (heap_on hb4 H3.out.2.2.2.1)));clear hdo hb4);clear y0 y1 y2 y3 y4 yl;go_upto_region 9 with fail;refine Par.wp_region_par 6 [.int .i64 r2, .int .i64 0, (Value.pointer (some ⟨V, 1, none⟩)), .string tb, fltV r2 0 tb 0 e0, .slice none 0 0] (fun w => Below w4.heap.size w4 w) ?A1 ?hm1 ?hB1 ?hA1 ((below_drew w4)) ?hop1 ?hT1
    case hm1 => kernel_rfl
    case hB1 => kernel_rfl
    case hA1 =>
      simp only[Par.putA, Par.dstAt, Act.put, List.getElem?_toArray, List.getElem?_cons_zero, List.getElem?_cons_succ, Option.bind_some, List.setIfInBounds_toArray, List.set_cons_zero, List.set_cons_succ, List.getD_cons_zero, List.getD_cons_succ];rfl
    case hop1 =>
      simp only[List.take_succ_cons, List.take_zero, Par.GiveAll, and_true];refine⟨fun w' hR => ?_, fun w' hR => ?_, fun w' hR => ?_, fun w' hR => ?_, fun w' hR => ?_, fun w' hR => ?_⟩
      · have HR := Lib.hid hR
        clear hR;simp only[Par.Gives];go_simp;all_goals exact HR.out
      · have HR := Lib.hid hR
        clear hR;simp only[Par.Gives];go_simp;all_goals exact HR.out
      · have HR := Lib.hid hR
        have zl := lt_of_heap (heap_on hR H4.out.2.1);clear hR;simp only[Par.Gives];go_simp;all_goals exact HR.out
      · have HR := Lib.hid hR
        have z1 := nd_cell (heap_on hR H4.out.2.1) 1;clear hR;simp only[Par.Gives];go_simp;all_goals exact HR.out
      · have HR := Lib.hid hR
        clear hR;simp only[Par.Gives];go_simp;all_goals exact HR.out
      · have HR := Lib.hid hR
        clear hR;simp only[Par.Gives];go_simp;all_goals exact HR.out
    case hT1 =>
      intro w' hR;simp only[List.drop_succ_cons, List.drop_zero];have hc := heap_on hR H4.out.2.2;have x0 := nd_cell hc 0;have x1 := nd_cell hc 1;have x2 := nd_cell hc 2;have x3 := nd_cell hc 3;have x4 := nd_cell hc 4;have xf :=(fun i => frozen_of_row w' R i _ _ hc);have xl := lt_of_heap hc;have H5 := Lib.hid (And.intro hc (below_on H4.out.1 hR));clear hR hc;go_wp2_with fail;generalize hwz:((((World.setCell _ _ _).setCell _ _).setCell _ _).setCell _ _).setCell _ _ = wz;have h5 := set5 H5.out.1 (.int .i64 r2) (.int .i64 0) (.string tb) (.int .i64 0) (.string e0);have hg5 := grown_set5 w' R (.int .i64 r2) (.int .i64 0) (.string tb) (.int .i64 0) (.string e0);rw[hwz] at h5 hg5;have y0 := nd_cell h5 0;have y1 := nd_cell h5 1;have y2 := nd_cell h5 2;have y3 := nd_cell h5 3;have y4 := nd_cell h5 4;refine bodyPost_ret (v := .tuple #[.slice none 0 0, fltV r2 0 tb 0 e0]) (by simp[results, Tryz.results15, go_sem, y0, y1, y2, y3, y4]) rfl ?_;have hR0 := H1.out.2.2.2;have hb5 := H5.out.2;exact⟨rfl, hg5.os.trans hb5.os, hg5.tape.trans hb5.tape, hg5.output.trans hb5.output, Nat.le_trans hb5.size hg5.size, fun q hq => (hg5.block q (Nat.lt_of_lt_of_le hq hb5.size) (fun e => by cases e;omega)).trans (hb5.block q hq)⟩
theorem napply_fail {w0:World} {d g cap:Nat} {k id r1 r2:Int} {tb col:ByteArray} {vv:Value} (hr:∀ w, Below w0.heap.size w0 w -> w.cell? ⟨g, 0, none⟩ = some (.int .i64 k) /\ w.cell? ⟨g, 1, none⟩ = some (.string tb) /\ w.cell? ⟨g, 2, none⟩ = some (.int .i64 id) /\ w.cell? ⟨g, 3, none⟩ = some (.string col) /\ w.cell? ⟨g, 4, none⟩ = some vv /\ g < w.heap.size) (hvv:∃ p n c, vv = .slice p n c)
    (hdo:∀ w, Below w0.heap.size w0 w -> Calls Tryz.prog 44 #[(Value.pointer (some ⟨d, 0, none⟩)), .agg #[.int .i64 k, .string tb, .int .i64 id, .string col, vv]] w fun e w' => e = .returned (.tuple #[.int .i64 r1, .int .i64 r2]) /\ Below w.heap.size w w') (hne:r2 ≠ 0) :
    Calls Tryz.prog 16 #[(Value.pointer (some ⟨d, 0, none⟩)), .slice (some ⟨g, 0, none⟩) 1 cap] w0 fun e w' => e = .returned (.tuple #[.slice none 0 0, fltV r2 0 tb 0 e0]) /\ Below w0.heap.size w0 w' := by
  obtain⟨pv, nv, cv, rfl⟩ := hvv;have hb1 := below_alloc w0 (.cells zF 33);have k1 := heap_alloc_new w0 (.cells zF 33);obtain⟨w1, hw1⟩:∃ w1, w0.alloc (.cells zF 33) = w1 := ⟨_, rfl⟩;obtain⟨R, hR⟩:∃ R, w0.heap.size = R := ⟨_, rfl⟩;rw[hw1] at hb1 k1;rw[hR] at k1;have H1 := Lib.hid (And.intro hb1 (And.intro k1 (And.intro hw1 hR)));have HR := Lib.hid (And.intro hr hdo);have hb:(r2 != 0) = true :=(by simp[hne]);clear hb1 k1 hw1 hR hr hdo hne;go_enter Tryz.func16, Tryz.ntmps16;go_upto_region 1 with fail;rw[H1.out.2.2.1, H1.out.2.2.2];go_wp2_with fail;go_loopg [6, 7] 2 (fun gh iv jv w => jv = .int .i64 0 /\ 1 <= gh /\ w = w1)
  case atStart => exact⟨rfl, by omega, rfl⟩
  case round =>
    obtain⟨rfl, hg, rfl⟩ := hrel;obtain⟨c0, c1, c2, c3, c4, gl⟩ := HR.out.1 wr H1.out.1;have hba := below_alloc wr (.cells #[.int .i64 k, .string tb, .int .i64 id, .string col, .slice pv nv cv] 47);have hna := heap_alloc_new wr (.cells #[.int .i64 k, .string tb, .int .i64 id, .string col, .slice pv nv cv] 47);have hkr := heap_on hba H1.out.2.1;obtain⟨V, hV⟩:∃ V, wr.heap.size = V := ⟨_, rfl⟩;obtain⟨w3, hw3⟩:∃ w3, wr.alloc (.cells #[.int .i64 k, .string tb, .int .i64 id, .string col, .slice pv nv cv] 47) = w3 := ⟨_, rfl⟩;have hb3 := below_on H1.out.1 hba;rw[hw3] at hba hna hkr hb3;rw[hV] at hna;have hdo := HR.out.2 w3 hb3;have y0 := nd_cell hna 0;have y1 := nd_cell hna 1;have y2 := nd_cell hna 2;have y3 := nd_cell hna 3;have y4 := nd_cell hna 4;have yl := lt_of_heap hna;have H3 := Lib.hid (And.intro hw3 (And.intro hV (And.intro hna (And.intro hkr hb3))));clear hba hna hw3 hV hkr hb3;go_upto_region 8 with fail;rw[H3.out.1, H3.out.2.1];clear c0 c1 c2 c3 c4 gl;go_upto_region 9 with (go_at_call 44;(with_reducible refine hdo.mono ?_);rintro e w4 ⟨rfl, hb4⟩;have H4 := Lib.hid (And.intro (below_on H3.out.2.2.2.2 hb4) (And.intro (heap_on hb4 H3.out.2.2.1) (heap_on hb4 H3.out.2.2.2.1)));clear hdo hb4);clear y0 y1 y2 y3 y4 yl;go_upto_region 10 with fail;refine Par.wp_region_par 6 [.int .i64 r2, .int .i64 0, (Value.pointer (some ⟨V, 1, none⟩)), .string tb, fltV r2 0 tb 0 e0, .slice none 0 0] (fun w => Below w4.heap.size w4 w) ?A2 ?hm2 ?hB2 ?hA2 ((below_drew w4)) ?hop2 ?hT2
    case hm2 => kernel_rfl
    case hB2 => kernel_rfl
    case hA2 =>
      simp only[Par.putA, Par.dstAt, Act.put, List.getElem?_toArray, List.getElem?_cons_zero, List.getElem?_cons_succ, Option.bind_some, List.setIfInBounds_toArray, List.set_cons_zero, List.set_cons_succ, List.getD_cons_zero, List.getD_cons_succ];rfl
    case hop2 =>
      simp only[List.take_succ_cons, List.take_zero, Par.GiveAll, and_true];refine⟨fun w' hR => ?_, fun w' hR => ?_, fun w' hR => ?_, fun w' hR => ?_, fun w' hR => ?_, fun w' hR => ?_⟩
      · have HR := Lib.hid hR
        clear hR;simp only[Par.Gives];go_simp;all_goals exact HR.out
      · have HR := Lib.hid hR
        clear hR;simp only[Par.Gives];go_simp;all_goals exact HR.out
      · have HR := Lib.hid hR
        have zl := lt_of_heap (heap_on hR H4.out.2.1);clear hR;simp only[Par.Gives];go_simp;all_goals exact HR.out
      · have HR := Lib.hid hR
        have z1 := nd_cell (heap_on hR H4.out.2.1) 1;clear hR;simp only[Par.Gives];go_simp;all_goals exact HR.out
      · have HR := Lib.hid hR
        clear hR;simp only[Par.Gives];go_simp;all_goals exact HR.out
      · have HR := Lib.hid hR
        clear hR;simp only[Par.Gives];go_simp;all_goals exact HR.out
    case hT2 =>
      intro w' hR;simp only[List.drop_succ_cons, List.drop_zero];have hc := heap_on hR H4.out.2.2;have x0 := nd_cell hc 0;have x1 := nd_cell hc 1;have x2 := nd_cell hc 2;have x3 := nd_cell hc 3;have x4 := nd_cell hc 4;have xf :=(fun i => frozen_of_row w' R i _ _ hc);have xl := lt_of_heap hc;have H5 := Lib.hid (And.intro hc (below_on H4.out.1 hR));clear hR hc;go_wp2_with fail;generalize hwz:((((World.setCell _ _ _).setCell _ _).setCell _ _).setCell _ _).setCell _ _ = wz;have h5 := set5 H5.out.1 (.int .i64 r2) (.int .i64 0) (.string tb) (.int .i64 0) (.string e0);have hg5 := grown_set5 w' R (.int .i64 r2) (.int .i64 0) (.string tb) (.int .i64 0) (.string e0);rw[hwz] at h5 hg5;have y0 := nd_cell h5 0;have y1 := nd_cell h5 1;have y2 := nd_cell h5 2;have y3 := nd_cell h5 3;have y4 := nd_cell h5 4;refine bodyPost_ret (v := .tuple #[.slice none 0 0, fltV r2 0 tb 0 e0]) (by simp[results, Tryz.results16, go_sem, y0, y1, y2, y3, y4]) rfl ?_;have hR0 := H1.out.2.2.2;have hb5 := H5.out.2;exact⟨rfl, hg5.os.trans hb5.os, hg5.tape.trans hb5.tape, hg5.output.trans hb5.output, Nat.le_trans hb5.size hg5.size, fun q hq => (hg5.block q (Nat.lt_of_lt_of_le hq hb5.size) (fun e => by cases e;omega)).trans (hb5.block q hq)⟩
theorem do_unf0 {w:World} {d n c:Nat} {k id:Int} {tb col:ByteArray} {p:Option Addr} (hf:formedP k n = false) :
    Calls Tryz.prog 43 #[(Value.pointer (some ⟨d, 0, none⟩)), .agg #[.int .i64 k, .string tb, .int .i64 id, .string col, .slice p n c]] w fun e w' => e = .returned (.tuple #[.int .i64 0, .int .i64 1]) /\ Below w.heap.size w w' := by
  have hb1 := below_alloc w (.cells #[.int .i64 k, .string tb, .int .i64 id, .string col, .slice p n c] 47);have k1 := heap_alloc_new w (.cells #[.int .i64 k, .string tb, .int .i64 id, .string col, .slice p n c] 47);obtain⟨w1, hw1⟩:∃ w1, w.alloc (.cells #[.int .i64 k, .string tb, .int .i64 id, .string col, .slice p n c] 47) = w1 := ⟨_, rfl⟩;obtain⟨B, hB⟩:∃ B, w.heap.size = B := ⟨_, rfl⟩;rw[hw1] at hb1 k1;rw[hB] at k1;have hform := formed_any k id tb col p n c w1;rw[hf] at hform;have x0 := nd_cell k1 0;have x1 := nd_cell k1 1;have x2 := nd_cell k1 2;have x3 := nd_cell k1 3;have x4 := nd_cell k1 4;have xl := lt_of_heap k1;have HW := Lib.hid (And.intro hw1 (And.intro hB hb1));clear hw1 hb1 k1 hB hf;go_enter Tryz.func43, Tryz.ntmps43;go_upto_region 1 with fail;rw[HW.out.1, HW.out.2.1];go_wp2_with (go_at_call 71;(with_reducible refine hform.mono ?_);rintro e w2 ⟨rfl, hb2⟩;have H2 := Lib.hid (below_on HW.out.2.2 hb2);clear hform hb2);go_ret2;exact⟨rfl, H2.out⟩
/-- An operation just made. -/
theorem op_new {w:World} {k id:Int} {tb col:ByteArray} {vv:Value} {g:Nat} (hg:w.heap[g]? = some (.cells #[.int .i64 k, .string tb, .int .i64 id, .string col, vv] 47)) (wy:World) (hb:Below w.heap.size w wy):wy.cell? ⟨g, 0, none⟩ = some (.int .i64 k) /\ wy.cell? ⟨g, 1, none⟩ = some (.string tb) /\ wy.cell? ⟨g, 2, none⟩ = some (.int .i64 id) /\ wy.cell? ⟨g, 3, none⟩ = some (.string col) /\ wy.cell? ⟨g, 4, none⟩ = some vv /\ g < wy.heap.size := by
  have k := heap_on hb hg;exact⟨nd_cell k 0, nd_cell k 1, nd_cell k 2, nd_cell k 3, nd_cell k 4, lt_of_heap k⟩
theorem bnone_law (W:World):Calls Tryz.prog 5 #[] W fun e w' => e = .returned (.bool true) /\ Below W.heap.size W w' := by
  have hnew := dnew_any W;go_enter Tryz.func5, Tryz.ntmps5;obtain⟨w1, hw1⟩:∃ x, W.alloc (.cells (zero91++[Value.int .i64 0, Value.map none]).toArray 87) = x := ⟨_, rfl⟩;obtain⟨D, hD⟩:∃ x, W.heap.size = x := ⟨_, rfl⟩;have hb1 := below_alloc W (.cells (zero91++[Value.int .i64 0, Value.map none]).toArray 87);have hdd := Dd.new W;rw[hw1] at hnew hb1 hdd;rw[hD] at hnew hdd;have H1 := Lib.hid (And.intro hdd hb1);have hnum := num_any 1 w1;clear hw1 hD hb1 hdd
  go_upto_region 2 with (first
    | (go_at_call 22;(with_reducible refine hnew.mono ?_);rintro e wx ⟨rfl, hw⟩;subst wx;clear hnew)
    | (go_at_call 20;(with_reducible refine hnum.mono ?_);rintro e w2 ⟨rfl, hb2⟩
       have b3 := below_alloc w2 (.cells #[.int .i64 1, .int .i64 1, .string e0] 42);have b4 := below_alloc (w2.alloc (.cells #[.int .i64 1, .int .i64 1, .string e0] 42)) (.cells #[.int .i64 1, .string bx, .int .i64 0, .string e0, .slice (some ⟨w2.heap.size, 0, none⟩) 1 1] 47);have k4 := heap_alloc_new (w2.alloc (.cells #[.int .i64 1, .int .i64 1, .string e0] 42)) (.cells #[.int .i64 1, .string bx, .int .i64 0, .string e0, .slice (some ⟨w2.heap.size, 0, none⟩) 1 1] 47);rw[World.size_alloc] at k4;have hb14 := below_on hb2 (below_on b3 b4);have hap := apply_fail (d := D) (cap := 1) (r1 := 0) (r2 := 3) (fun w hw => op_new k4 w hw) ⟨_, _, _, rfl⟩ (fun w hw => do_none0 (Q := fun w' => Below w.heap.size w w') rfl (fun wy hy => (((H1.out.1.later (below_on hb14 (below_on hw hy))).notable (fun t h => by cases h) (Nat.le_trans (show bx.size <= 100 by decide) (by unfold maxLen;omega)) rfl).mono (fun e w' h => ⟨h.1, below_on hy h.2⟩)))) (by decide);have HB := Lib.hid hb14;clear hnum hb2 b3 b4 k4 hb14)
    | (go_at_call 15;(with_reducible refine hap.mono ?_);rintro e w5 ⟨rfl, hb5⟩;have H5 := Lib.hid (below_on (below_on H1.out.2 HB.out) hb5);clear hap hb5))
  have k6 := heap_alloc_new w5 (.cells #[.int .i64 3, .int .i64 0, .string bx, .int .i64 0, .string e0] 33);have hb6 := below_on H5.out (below_alloc w5 (.cells #[.int .i64 3, .int .i64 0, .string bx, .int .i64 0, .string e0] 33));obtain⟨w6, hw6⟩:∃ x, w5.alloc (.cells #[.int .i64 3, .int .i64 0, .string bx, .int .i64 0, .string e0] 33) = x := ⟨_, rfl⟩;obtain⟨F1, hF1⟩:∃ x, w5.heap.size = x := ⟨_, rfl⟩;rw[hw6] at k6 hb6;rw[hF1] at k6;rw[hw6, hF1];have H6 := Lib.hid (And.intro k6 hb6);have hnew := dnew_any w6;obtain⟨w7, hw7⟩:∃ x, w6.alloc (.cells (zero91++[Value.int .i64 0, Value.map none]).toArray 87) = x := ⟨_, rfl⟩;have hb7 := below_alloc w6 (.cells (zero91++[Value.int .i64 0, Value.map none]).toArray 87);rw[hw7] at hnew hb7;have k8 := heap_alloc_new w7 (.cells #[.int .i64 9, .string bx, .int .i64 0, .string e0, .slice none 0 0] 47);have hb8 := below_on hb7 (below_alloc w7 (.cells #[.int .i64 9, .string bx, .int .i64 0, .string e0, .slice none 0 0] 47));have hap := apply_fail (d := w6.heap.size) (cap := 1) (r1 := 0) (r2 := 1) (fun w hw => op_new k8 w hw) ⟨_, _, _, rfl⟩ (fun w hw => do_unf0 rfl) (by decide);have H8 := Lib.hid hb8;clear hw6 hF1 k6 hb6 hw7 hb7 k8 hb8 HB H5
  go_upto_region 3 with (first
    | (go_at_call 22;(with_reducible refine hnew.mono ?_);rintro e wx ⟨rfl, hw⟩;subst wx;clear hnew)
    | (go_at_call 15;(with_reducible refine hap.mono ?_);rintro e w9 ⟨rfl, hb9⟩;have H9 := Lib.hid (below_on H8.out hb9);clear hap hb9))
  have k10 := heap_alloc_new w9 (.cells #[.int .i64 1, .int .i64 0, .string bx, .int .i64 0, .string e0] 33);have hb10 := below_on H9.out (below_alloc w9 (.cells #[.int .i64 1, .int .i64 0, .string bx, .int .i64 0, .string e0] 33));obtain⟨w10, hw10⟩:∃ x, w9.alloc (.cells #[.int .i64 1, .int .i64 0, .string bx, .int .i64 0, .string e0] 33) = x := ⟨_, rfl⟩;obtain⟨F2, hF2⟩:∃ x, w9.heap.size = x := ⟨_, rfl⟩;rw[hw10] at k10 hb10;rw[hF2] at k10;rw[hw10, hF2];go_upto_region 4 with fail;have hb11 := below_alloc w10 (.cells #[.slice none 0 0, .slice none 0 0, .slice none 0 0] 54);obtain⟨w11, hw11⟩:∃ x, w10.alloc (.cells #[.slice none 0 0, .slice none 0 0, .slice none 0 0] 54) = x := ⟨_, rfl⟩;obtain⟨Bn, hBn⟩:∃ x, w10.heap.size = x := ⟨_, rfl⟩;rw[hw11] at hb11;rw[hw11, hBn];have k12 := heap_alloc_new w11 (.cells #[.int .i64 9, .string bx, .int .i64 0, .string e0, .slice none 0 0] 47);have hb12 := below_alloc w11 (.cells #[.int .i64 9, .string bx, .int .i64 0, .string e0, .slice none 0 0] 47);have hap := napply_fail (d := Bn) (cap := 1) (r1 := 0) (r2 := 1) (fun w hw => op_new k12 w hw) ⟨_, _, _, rfl⟩ (fun w hw => one_unformed rfl) (by decide);have H12 := Lib.hid (And.intro (heap_on hb12 (heap_on hb11 (heap_on hb10 H6.out.1))) (And.intro (heap_on hb12 (heap_on hb11 k10)) (below_on H6.out.2 (below_on hb10 (below_on hb11 hb12)))));clear hw10 hF2 k10 hb10 hb11 hw11 hBn k12 hb12 H9 H8 H6;go_upto_region 5 with (go_at_call 16;(with_reducible refine hap.mono ?_);rintro e w13 ⟨rfl, hb13⟩;have H13 := Lib.hid (And.intro (heap_on hb13 H12.out.1) (And.intro (heap_on hb13 H12.out.2.1) (below_on H12.out.2.2 hb13)));clear hap hb13);have k14 := heap_alloc_new w13 (.cells #[.int .i64 1, .int .i64 0, .string bx, .int .i64 0, .string e0] 33);have hb14 := below_alloc w13 (.cells #[.int .i64 1, .int .i64 0, .string bx, .int .i64 0, .string e0] 33);obtain⟨w14, hw14⟩:∃ x, w13.alloc (.cells #[.int .i64 1, .int .i64 0, .string bx, .int .i64 0, .string e0] 33) = x := ⟨_, rfl⟩;obtain⟨F3, hF3⟩:∃ x, w13.heap.size = x := ⟨_, rfl⟩;rw[hw14] at k14 hb14;rw[hF3] at k14;rw[hw14, hF3];have H14 := Lib.hid (And.intro (heap_on hb14 H13.out.1) (And.intro (heap_on hb14 H13.out.2.1) (And.intro k14 (below_on H13.out.2.2 hb14))));have hbeg := begun13_any w14;clear hw14 hF3 k14 hb14 H13 H12
  go_wp2_with (first
    | (go_at_call 11;(with_reducible refine hbeg.mono ?_);rintro e w15 ⟨rfl, hb15⟩
       have a1 := heap_on hb15 H14.out.1;have a2 := heap_on hb15 H14.out.2.1;have a3 := heap_on hb15 H14.out.2.2.1;have c0 := nd_cell a1 0;have c2 := nd_cell a1 2;have cl := lt_of_heap a1;have d0 := nd_cell a2 0;have d1 := nd_cell a2 1;have d2 := nd_cell a2 2;have d3 := nd_cell a2 3;have d4 := nd_cell a2 4;have dl := lt_of_heap a2;have f0 := nd_cell a3 0;have f1 := nd_cell a3 1;have f2 := nd_cell a3 2;have f3 := nd_cell a3 3;have f4 := nd_cell a3 4;have fl := lt_of_heap a3;have hf := eqfault_same 1 0 0 bx e0 w15;have H15 := Lib.hid (below_on H14.out.2.2.2 hb15);clear hbeg hb15 a1 a2 a3)
    | (go_at_call 17;(with_reducible refine hf.mono ?_);rintro e w16 ⟨rfl, hb16⟩;have H16 := Lib.hid (below_on H15.out hb16);clear hf hb16))
  go_ret;exact⟨rfl, H16.out⟩
