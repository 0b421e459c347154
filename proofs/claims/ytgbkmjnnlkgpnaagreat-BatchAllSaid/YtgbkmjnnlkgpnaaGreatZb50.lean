import Derived.Test.YtgbkmjnnlkgpnaaGreatZb48
import Derived.Test.YtgbkmjnnlkgpnaaGreatZb47
import Derived.Test.YtgbkmjnnlkgpnaaGreatZb49
import Derived.Test.YtgbkmjnnlkgpnaaGreatZb40
set_option maxHeartbeats 8000000
set_option maxRecDepth 100000
namespace Go.Proofs.YtgbkmjnnlkgpnaaGreat
open Go Go.RowKit Go.Proofs Co Co.S
theorem opok_cut {u:OpX} (h:F64 u.id):OpOk (cutOp u):=by
 refine⟨h,?_,?_,fun x hx=>?_,?_⟩
 ·exact Nat.le_trans (cutB_le 20 u.tbl) (by unfold maxLen;omega)
 ·exact Nat.le_trans (cutB_le 20 u.col) (by unfold maxLen;omega)
 ·have hx:x∈(cutR 7 u.vals):=hx;unfold cutR at hx;have h1:=List.mem_of_mem_take hx;obtain⟨y,_,rfl⟩:=List.mem_map.1 h1;exact Nat.le_trans (cutB_le 20 y.2.2) (by unfold maxLen;omega)
 ·exact Nat.le_trans (cutR_len 7 u.vals) (by omega)
theorem ops_ok {L:List OpX} (h:∀ o∈L,F64 o.id) (M:Nat):∀ o∈(L.take M).map cutOp,OpOk o:=fun o ho=>by
 obtain⟨u,hu,rfl⟩:=List.mem_map.1 ho;exact opok_cut (h u (List.mem_of_mem_take hu))
theorem opsR_later {W w:World} {p:Option Addr} {L:List OpX} (h:OpsR W p L) (hb:Below W.heap.size W w):OpsR w p L:=fun j hj=>by
 obtain⟨b,off,vv,e,hlt,c0,c1,c2,c3,c4,hv,h1,h2,h3⟩:=h j hj;have hk:=hb.block b hlt;have hc:∀ (o:Nat) (v:Value),W.cell? ⟨b,o,none⟩=some v->w.cell? ⟨b,o,none⟩=some v:=(fun o v hv=>(World.cell?_of_block (a:=⟨b,o,none⟩) hk).trans hv);exact⟨b,off,vv,e,Nat.lt_of_lt_of_le hlt hb.size,hc _ _ c0,hc _ _ c1,hc _ _ c2,hc _ _ c3,hc _ _ c4,(hv.later hb).mono (fun q _ hq=>Nat.lt_of_lt_of_le hq hb.size),h1,h2,h3⟩
abbrev Lz:List PT:=List.replicate 4 (0,[])
theorem Lz_sm:∀ x∈Lz,SmP 0 x:=fun x hx=>by
 obtain rfl:=List.eq_of_mem_replicate hx;exact⟨Nat.le_refl _,Nat.le_refl _⟩
theorem star_c:∀ t∈pre 4,0<t.cols.length/\t.cols.length<=1000:=fun t ht=>⟨(star_cols4 t ht).1,by have:=(star_cols4 t ht).2;omega⟩
theorem fill_star {W w w1:World} {d b:Nat} {ps:List Nat} {tv:Value} {L:List OpX} {M:Nat} (h:PD (fun q=>q<W.heap.size) W w d b (pre 4) ps Lz Lz) (hb:Below w.heap.size w w1) (ho:OpsO w1 w.heap.size tv ((L.take M).map cutOp)) (hL:∀ o∈L,F64 o.id) (hM:M<=60) :
  Calls Tryz.prog 13 #[(Value.pointer (some ⟨d,0,none⟩)),(Value.pointer (some ⟨b,0,none⟩)),tv] w1 fun e w'=>e=.returned (.tuple #[])/\PD (fun q=>q<W.heap.size) W w' d b (pre 4) ps (fillP (pre 4) Lz ((L.take M).map cutOp)) (fillP (pre 4) Lz ((L.take M).map cutOp)):=by
 have hw:=h.with hb;refine (fill_any hw ho (fun q h1 h2=>.inr ⟨h1,h2⟩) (pre_inv 4 (by decide)) (pre_few 4) star_short star_c Lz_sm Lz_sm (by rw[List.length_map,List.length_take];omega) (ops_ok hL M)).mono ?_;rintro e w' ⟨rfl,hP⟩;exact⟨rfl,(h.later hb).back hP (fun q hq=>.inl hq)⟩
theorem fill_small {L:List OpX} {M:Nat} (hM:M<=60):∀ x∈fillP (pre 4) Lz ((L.take M).map cutOp),SmP 60 x:=fun x hx=>by
 have:=fillP_sm (ts:=pre 4) (l:=(L.take M).map cutOp) Lz_sm x hx
 rw[List.length_map,List.length_take] at this;exact this.mono (by omega)
structure Rd2 (W:World) (d b:Nat) (ts:List T) (L:List PT):Prop where
 dd:∃ st O,Dd W d ts st O/\st.map (·.2)=L
 nn:∃ tt i O,DbN W b ts tt i O/\tt.map keyN=L
theorem Rd2.later {W w:World} {d b:Nat} {ts:List T} {L:List PT} (h:Rd2 W d b ts L) (hb:Below W.heap.size W w):Rd2 w d b ts L:=by
 obtain⟨⟨st,O,h1,h2⟩,⟨tt,i,O',h3,h4⟩⟩:=h;exact⟨⟨st,O,h1.later hb,h2⟩,⟨tt,i,O',h3.later hb,h4⟩⟩
theorem PD.rd2 {K:Nat->Prop} {W0 w:World} {d b:Nat} {ts:List T} {ps:List Nat} {L:List PT} (h:PD K W0 w d b ts ps L L):Rd2 w d b ts L:=by
 obtain⟨st,O,h1,_,h2⟩:=h.dd;obtain⟨tt,i,O',h3,h4⟩:=h.dbn;exact⟨⟨st,O,h1,h2⟩,⟨tt,i,O',h3,h4⟩⟩
section
variable {W:World} {d b:Nat} {L:List PT} {m:Nat}
theorem small_A {tt:List RT} (h:tt.map keyN=L) (hs:∀ x∈L,SmP m x) (hm:m<=390):∀ y∈tt,y.A.length<=100000:=fun y hy=>by
 have h1:keyN y∈L:=(by rw[<- h];exact List.mem_map_of_mem hy);obtain⟨a1,a2⟩:=hs _ h1;have a1:y.nx<=m:=a1;have a2:y.A.length<=y.nx:=a2;omega
end
def formedP (k:Int) (n:Nat):Bool:=if k=1∨k=2 then true else if k=3 then decide (n=1) else false
theorem formed_any (k id:Int) (tb col:ByteArray) (p:Option Addr) (n c:Nat) (W:World) :
  Calls Tryz.prog 71 #[.agg #[.int .i64 k,.string tb,.int .i64 id,.string col,.slice p n c]] W fun e w'=>e=.returned (.bool (formedP k n))/\Below W.heap.size W w':=by
 unfold formedP;have hb1:=below_alloc W (.cells #[.int .i64 k,.string tb,.int .i64 id,.string col,.slice p n c] 47);have k1:=heap_alloc_new W (.cells #[.int .i64 k,.string tb,.int .i64 id,.string col,.slice p n c] 47);obtain⟨w1,hw1⟩:∃ w1,W.alloc (.cells #[.int .i64 k,.string tb,.int .i64 id,.string col,.slice p n c] 47)=w1:=⟨_,rfl⟩;obtain⟨B,hB⟩:∃ B,W.heap.size=B:=⟨_,rfl⟩;rw[hw1] at hb1 k1;rw[hB] at k1;have x0:=nd_cell k1 0;have x4:=nd_cell k1 4;have xl:=lt_of_heap k1;have HW:=Lib.hid (And.intro hw1 (And.intro hB hb1));clear hw1 hb1 k1 hB;by_cases h1:k=1
 ·subst h1;go_enter Tryz.func71,Tryz.ntmps71;go_upto_region 1 with fail;rw[HW.out.1,HW.out.2.1];go_wp2_with fail;go_ret;exact⟨rfl,HW.out.2.2⟩
 ·by_cases h2:k=2
  ·subst h2;go_enter Tryz.func71,Tryz.ntmps71;go_upto_region 1 with fail;rw[HW.out.1,HW.out.2.1];go_wp2_with fail;go_ret;exact⟨rfl,HW.out.2.2⟩
  ·by_cases h3:k=3
   ·subst h3;go_enter Tryz.func71,Tryz.ntmps71;go_upto_region 1 with fail;rw[HW.out.1,HW.out.2.1];go_wp2_with fail;go_ret;refine⟨?_,HW.out.2.2⟩;have e:((n:Int)==1)=decide (n=1):=(by rw[Bool.eq_iff_iff];simp;omega);simp[e]
   ·have e1:(k==1)=false:=(by simp[h1]);have e2:(k==2)=false:=(by simp[h2]);have e3:(k==3)=false:=(by simp[h3]);go_enter Tryz.func71,Tryz.ntmps71;go_upto_region 1 with fail;rw[HW.out.1,HW.out.2.1];go_wp2_with fail;go_ret;exact⟨by simp,HW.out.2.2⟩
def doE (ts:List T) (L:List PT) (o:OpX):Int×Int :=
 if formedP o.dO o.vals.length=false then (0,1) else match ts[(ixT ts o.tbl).toNat]?,L[(ixT ts o.tbl).toNat]? with
 | some t,some x=>if ixT ts o.tbl<0 then (0,3) else if o.dO=1 then (insN t x o.vals,insE t o.vals) else if o.dO=2 then (0,if hasId x.2 o.id=true then 0 else 6) else (0,setE t x.2 o.id o.col (o.vals.getD 0 z3))
 | _,_=>(0,3)
def do1 (ts:List T) (L:List PT) (o:OpX):List PT:=if formedP o.dO o.vals.length=true then fill1 ts L o else L
section
variable {K:Nat->Prop} {W0 w:World} {d b m:Nat} {ts:List T} {ps:List Nat} {L1 L2:List PT} {S:Nat->Prop} {vv:Value} {o:OpX}
theorem do_unformed (h:PD K W0 w d b ts ps L1 L2) (hv:InV S w vv o.vals) (hf:formedP o.dO o.vals.length=false) :
  Calls Tryz.prog 43 #[(Value.pointer (some ⟨d,0,none⟩)),.agg #[.int .i64 o.dO,.string o.tbl,.int .i64 o.id,.string o.col,vv]] w fun e w'=>e=.returned (.tuple #[.int .i64 (doE ts L1 o).1,.int .i64 (doE ts L1 o).2])/\PD K W0 w' d b ts ps (do1 ts L1 o) L2:=by
 unfold doE do1;rw[if_pos hf,if_neg (by rw[hf];decide)];obtain⟨p,c,rfl,_,_⟩:=hv.slice;obtain⟨n,hn⟩:∃ n,o.vals.length=n:=⟨_,rfl⟩;rw[hn] at hf ⊢;have hb1:=below_alloc w (.cells #[.int .i64 o.dO,.string o.tbl,.int .i64 o.id,.string o.col,.slice p n c] 47);have k1:=heap_alloc_new w (.cells #[.int .i64 o.dO,.string o.tbl,.int .i64 o.id,.string o.col,.slice p n c] 47);obtain⟨w1,hw1⟩:∃ w1,w.alloc (.cells #[.int .i64 o.dO,.string o.tbl,.int .i64 o.id,.string o.col,.slice p n c] 47)=w1:=⟨_,rfl⟩;obtain⟨B,hB⟩:∃ B,w.heap.size=B:=⟨_,rfl⟩;rw[hw1] at hb1 k1;rw[hB] at k1;have hform:=formed_any o.dO o.id o.tbl o.col p n c w1;rw[hf] at hform;have x0:=nd_cell k1 0;have x1:=nd_cell k1 1;have x2:=nd_cell k1 2;have x3:=nd_cell k1 3;have x4:=nd_cell k1 4;have xl:=lt_of_heap k1;have HW:=Lib.hid (And.intro hw1 (And.intro hB (And.intro hb1 h)));clear hw1 hb1 k1 hB h hv hn hf;go_enter Tryz.func43,Tryz.ntmps43;go_upto_region 1 with fail;rw[HW.out.1,HW.out.2.1];go_wp2_with (go_at_call 71;(with_reducible refine hform.mono ?_);rintro e w2 ⟨rfl,hb2⟩;have H2:=Lib.hid (below_on HW.out.2.2.1 hb2);clear hform hb2);go_ret2;exact⟨rfl,HW.out.2.2.2.later H2.out⟩
end
section
variable {w:World} {d n c pt:Nat} {id r1 r2:Int} {tb col:ByteArray} {p:Option Addr} {Q:World->Prop}
theorem do_none0 {k:Int} (hf:formedP k n=true)
  (htab:∀ w1,Below w.heap.size w w1->Calls Tryz.prog 29 #[(Value.pointer (some ⟨d,0,none⟩)),.string tb] w1 fun e w'=>e=.returned (.pointer none)/\Q w') :
  Calls Tryz.prog 43 #[(Value.pointer (some ⟨d,0,none⟩)),.agg #[.int .i64 k,.string tb,.int .i64 id,.string col,.slice p n c]] w fun e w'=>e=.returned (.tuple #[.int .i64 0,.int .i64 3])/\Q w':=by
 have hb1:=below_alloc w (.cells #[.int .i64 k,.string tb,.int .i64 id,.string col,.slice p n c] 47);have k1:=heap_alloc_new w (.cells #[.int .i64 k,.string tb,.int .i64 id,.string col,.slice p n c] 47);obtain⟨w1,hw1⟩:∃ w1,w.alloc (.cells #[.int .i64 k,.string tb,.int .i64 id,.string col,.slice p n c] 47)=w1:=⟨_,rfl⟩;obtain⟨B,hB⟩:∃ B,w.heap.size=B:=⟨_,rfl⟩;rw[hw1] at hb1 k1;rw[hB] at k1;have hform:=formed_any k id tb col p n c w1;rw[hf] at hform;have x0:=nd_cell k1 0;have x1:=nd_cell k1 1;have x2:=nd_cell k1 2;have x3:=nd_cell k1 3;have x4:=nd_cell k1 4;have xl:=lt_of_heap k1;have HW:=Lib.hid (And.intro hw1 (And.intro hB (And.intro hb1 k1)));have HT:=Lib.hid htab;clear hw1 hb1 k1 hB hf htab;go_enter Tryz.func43,Tryz.ntmps43;go_upto_region 1 with fail;rw[HW.out.1,HW.out.2.1]
 go_wp2_with (first
  | (go_at_call 71;(with_reducible refine hform.mono ?_);rintro e w2 ⟨rfl,hb2⟩;have H2:=Lib.hid (And.intro (below_on HW.out.2.2.1 hb2) (heap_on hb2 HW.out.2.2.2));have y1:=nd_cell H2.out.2 1;have yl:=lt_of_heap H2.out.2;have htab:=HT.out w2 H2.out.1;clear hform hb2 x0 x1 x2 x3 x4 xl)
  | (go_at_call 29;(with_reducible refine htab.mono ?_);rintro e w3 ⟨rfl,hq⟩;have HQ:=Lib.hid hq;clear htab hq))
 go_ret2;exact⟨rfl,HQ.out⟩
theorem do_ins0
  (htab:∀ w1,Below w.heap.size w w1->Calls Tryz.prog 29 #[(Value.pointer (some ⟨d,0,none⟩)),.string tb] w1 fun e w'=>e=.returned (Value.pointer (some ⟨pt,0,none⟩))/\w'=w1)
  (hins:∀ w1,Below w.heap.size w w1->Calls Tryz.prog 35 #[(Value.pointer (some ⟨pt,0,none⟩)),.slice p n c] w1 fun e w'=>e=.returned (.tuple #[.int .i64 r1,.int .i64 r2])/\Q w') :
  Calls Tryz.prog 43 #[(Value.pointer (some ⟨d,0,none⟩)),.agg #[.int .i64 1,.string tb,.int .i64 id,.string col,.slice p n c]] w fun e w'=>e=.returned (.tuple #[.int .i64 r1,.int .i64 r2])/\Q w':=by
 have hb1:=below_alloc w (.cells #[.int .i64 1,.string tb,.int .i64 id,.string col,.slice p n c] 47);have k1:=heap_alloc_new w (.cells #[.int .i64 1,.string tb,.int .i64 id,.string col,.slice p n c] 47);obtain⟨w1,hw1⟩:∃ w1,w.alloc (.cells #[.int .i64 1,.string tb,.int .i64 id,.string col,.slice p n c] 47)=w1:=⟨_,rfl⟩;obtain⟨B,hB⟩:∃ B,w.heap.size=B:=⟨_,rfl⟩;rw[hw1] at hb1 k1;rw[hB] at k1;have hform:=formed_any 1 id tb col p n c w1;rw[show formedP 1 n=true from rfl] at hform;have x0:=nd_cell k1 0;have x1:=nd_cell k1 1;have x2:=nd_cell k1 2;have x3:=nd_cell k1 3;have x4:=nd_cell k1 4;have xl:=lt_of_heap k1;have HW:=Lib.hid (And.intro hw1 (And.intro hB (And.intro hb1 k1)));have HT:=Lib.hid (And.intro htab hins);clear hw1 hb1 k1 hB htab hins;go_enter Tryz.func43,Tryz.ntmps43;go_upto_region 1 with fail;rw[HW.out.1,HW.out.2.1]
 go_wp2_with (first
  | (go_at_call 71;(with_reducible refine hform.mono ?_);rintro e w2 ⟨rfl,hb2⟩;have H2:=Lib.hid (And.intro (below_on HW.out.2.2.1 hb2) (heap_on hb2 HW.out.2.2.2));have y0:=nd_cell H2.out.2 0;have y1:=nd_cell H2.out.2 1;have y4:=nd_cell H2.out.2 4;have yl:=lt_of_heap H2.out.2;have htab:=HT.out.1 w2 H2.out.1;have hins:=HT.out.2 w2 H2.out.1;clear hform hb2 x0 x1 x2 x3 x4 xl)
  | (go_at_call 29;(with_reducible refine htab.mono ?_);rintro e w3 ⟨rfl,hw⟩;subst w3;clear htab)
  | (go_at_call 35;(with_reducible refine hins.mono ?_);rintro e w4 ⟨rfl,hq⟩;have HQ:=Lib.hid hq;clear hins hq))
 go_ret2;exact⟨rfl,HQ.out⟩
theorem do_del0 {r:Bool}
  (htab:∀ w1,Below w.heap.size w w1->Calls Tryz.prog 29 #[(Value.pointer (some ⟨d,0,none⟩)),.string tb] w1 fun e w'=>e=.returned (Value.pointer (some ⟨pt,0,none⟩))/\w'=w1)
  (hins:∀ w1,Below w.heap.size w w1->Calls Tryz.prog 37 #[(Value.pointer (some ⟨pt,0,none⟩)),.int .i64 id] w1 fun e w'=>e=.returned (.bool r)/\Q w') :
  Calls Tryz.prog 43 #[(Value.pointer (some ⟨d,0,none⟩)),.agg #[.int .i64 2,.string tb,.int .i64 id,.string col,.slice p n c]] w fun e w'=>e=.returned (.tuple #[.int .i64 0,.int .i64 (if r=true then 0 else 6)])/\Q w':=by
 have hb1:=below_alloc w (.cells #[.int .i64 2,.string tb,.int .i64 id,.string col,.slice p n c] 47);have k1:=heap_alloc_new w (.cells #[.int .i64 2,.string tb,.int .i64 id,.string col,.slice p n c] 47);obtain⟨w1,hw1⟩:∃ w1,w.alloc (.cells #[.int .i64 2,.string tb,.int .i64 id,.string col,.slice p n c] 47)=w1:=⟨_,rfl⟩;obtain⟨B,hB⟩:∃ B,w.heap.size=B:=⟨_,rfl⟩;rw[hw1] at hb1 k1;rw[hB] at k1;have hform:=formed_any 2 id tb col p n c w1;rw[show formedP 2 n=true from rfl] at hform;have x0:=nd_cell k1 0;have x1:=nd_cell k1 1;have x2:=nd_cell k1 2;have x3:=nd_cell k1 3;have x4:=nd_cell k1 4;have xl:=lt_of_heap k1;have HW:=Lib.hid (And.intro hw1 (And.intro hB (And.intro hb1 k1)));have HT:=Lib.hid (And.intro htab hins);clear hw1 hb1 k1 hB htab hins;go_enter Tryz.func43,Tryz.ntmps43;go_upto_region 1 with fail;rw[HW.out.1,HW.out.2.1]
 cases r <;> go_wp2_with (first
  | (go_at_call 71;(with_reducible refine hform.mono ?_);rintro e w2 ⟨rfl,hb2⟩;have H2:=Lib.hid (And.intro (below_on HW.out.2.2.1 hb2) (heap_on hb2 HW.out.2.2.2));have y0:=nd_cell H2.out.2 0;have y1:=nd_cell H2.out.2 1;have y2:=nd_cell H2.out.2 2;have yl:=lt_of_heap H2.out.2;have htab:=HT.out.1 w2 H2.out.1;have hins:=HT.out.2 w2 H2.out.1;clear hform hb2 x0 x1 x2 x3 x4 xl)
  | (go_at_call 29;(with_reducible refine htab.mono ?_);rintro e w3 ⟨rfl,hw⟩;subst w3;clear htab)
  | (go_at_call 37;(with_reducible refine hins.mono ?_);rintro e w4 ⟨rfl,hq⟩;have HQ:=Lib.hid hq;clear hins hq))
 ·go_ret2;exact⟨rfl,HQ.out⟩
 ·go_ret2;exact⟨rfl,HQ.out⟩
theorem do_set0 {vb vo:Nat} {u:T3} {r:Int}
  (hv:∀ w1,Below w.heap.size w w1->w1.cell? ⟨vb,vo,none⟩=some (.int .i64 u.1)/\w1.cell? ⟨vb,vo+1,none⟩=some (.int .i64 u.2.1)/\w1.cell? ⟨vb,vo+2,none⟩=some (.string u.2.2)/\vb<w1.heap.size)
  (htab:∀ w1,Below w.heap.size w w1->Calls Tryz.prog 29 #[(Value.pointer (some ⟨d,0,none⟩)),.string tb] w1 fun e w'=>e=.returned (Value.pointer (some ⟨pt,0,none⟩))/\w'=w1)
  (hins:∀ w1,Below w.heap.size w w1->Calls Tryz.prog 39 #[(Value.pointer (some ⟨pt,0,none⟩)),.int .i64 id,.string col,(Value.agg #[Value.int .i64 (u.1),Value.int .i64 (u.2.1),Value.string (u.2.2)])] w1 fun e w'=>e=.returned (.int .i64 r)/\Q w') :
  Calls Tryz.prog 43 #[(Value.pointer (some ⟨d,0,none⟩)),.agg #[.int .i64 3,.string tb,.int .i64 id,.string col,.slice (some ⟨vb,vo,none⟩) 1 c]] w fun e w'=>e=.returned (.tuple #[.int .i64 0,.int .i64 r])/\Q w':=by
 have hb1:=below_alloc w (.cells #[.int .i64 3,.string tb,.int .i64 id,.string col,.slice (some ⟨vb,vo,none⟩) 1 c] 47);have k1:=heap_alloc_new w (.cells #[.int .i64 3,.string tb,.int .i64 id,.string col,.slice (some ⟨vb,vo,none⟩) 1 c] 47);obtain⟨w1,hw1⟩:∃ w1,w.alloc (.cells #[.int .i64 3,.string tb,.int .i64 id,.string col,.slice (some ⟨vb,vo,none⟩) 1 c] 47)=w1:=⟨_,rfl⟩;obtain⟨B,hB⟩:∃ B,w.heap.size=B:=⟨_,rfl⟩;rw[hw1] at hb1 k1;rw[hB] at k1;have hform:=formed_any 3 id tb col (some ⟨vb,vo,none⟩) 1 c w1;rw[show formedP 3 1=true from rfl] at hform;have x0:=nd_cell k1 0;have x1:=nd_cell k1 1;have x2:=nd_cell k1 2;have x3:=nd_cell k1 3;have x4:=nd_cell k1 4;have xl:=lt_of_heap k1;have HW:=Lib.hid (And.intro hw1 (And.intro hB (And.intro hb1 k1)));have HT:=Lib.hid (And.intro htab (And.intro hins hv));clear hw1 hb1 k1 hB htab hins hv;go_enter Tryz.func43,Tryz.ntmps43;go_upto_region 1 with fail;rw[HW.out.1,HW.out.2.1]
 go_upto_region 10 with (first
  | (go_at_call 71;(with_reducible refine hform.mono ?_);rintro e w2 ⟨rfl,hb2⟩;have H2:=Lib.hid (And.intro (below_on HW.out.2.2.1 hb2) (heap_on hb2 HW.out.2.2.2));have y0:=nd_cell H2.out.2 0;have y1:=nd_cell H2.out.2 1;have yl:=lt_of_heap H2.out.2;have htab:=HT.out.1 w2 H2.out.1;clear hform hb2 x0 x1 x2 x3 x4 xl)
  | (go_at_call 29;(with_reducible refine htab.mono ?_);rintro e w3 ⟨rfl,hw⟩;subst w3;clear htab))
 clear y0 y1 yl;have HK:Hid (∀ w',Below w2.heap.size w2 w'->w'.heap[B]?=some (.cells #[.int .i64 3,.string tb,.int .i64 id,.string col,.slice (some ⟨vb,vo,none⟩) 1 c] 47)):=Lib.hid (fun w' hw=>heap_on hw H2.out.2);have HV:Hid (∀ w',Below w2.heap.size w2 w'->_):=Lib.hid (fun w' hw=>HT.out.2.2 w' (below_on H2.out.1 hw));have hk0:(0:Int)<1:=(by decide);refine Par.wp_region_par 9 [(Value.pointer (some ⟨pt,0,none⟩)),(Value.pointer (some ⟨B,2,none⟩)),.int .i64 id,(Value.pointer (some ⟨B,3,none⟩)),.string col,(Value.pointer (some ⟨B,4,none⟩)),.slice (some ⟨vb,vo,none⟩) 1 c,(Value.pointer (some ⟨vb,vo,none⟩)),(Value.agg #[Value.int .i64 (u.1),Value.int .i64 (u.2.1),Value.string (u.2.2)])] (fun w=>Below w2.heap.size w2 w) ?A1 ?hm1 ?hB1 ?hA1 ((below_drew w2)) ?hop1 ?hT1
 case hm1=>kernel_rfl
 case hB1=>kernel_rfl
 case hA1 =>
  simp only[Par.putA,Par.dstAt,Act.put,List.getElem?_toArray,List.getElem?_cons_zero,List.getElem?_cons_succ,Option.bind_some,List.setIfInBounds_toArray,List.set_cons_zero,List.set_cons_succ,List.getD_cons_zero,List.getD_cons_succ];rfl
 case hop1 =>
  simp only[List.take_succ_cons,List.take_zero,Par.GiveAll,and_true];and_intros<;>intro w' hR
  ·have HR:=Lib.hid hR;clear hR;simp only[Par.Gives];go_simp;all_goals exact HR.out
  ·have HR:=Lib.hid hR;have zl:=lt_of_heap (HK.out w' hR);clear hR;simp only[Par.Gives];go_simp;all_goals exact HR.out
  ·have HR:=Lib.hid hR;have z1:=nd_cell (HK.out w' hR) 2;clear hR;simp only[Par.Gives];go_simp;all_goals exact HR.out
  ·have HR:=Lib.hid hR;have zl:=lt_of_heap (HK.out w' hR);clear hR;simp only[Par.Gives];go_simp;all_goals exact HR.out
  ·have HR:=Lib.hid hR;have z1:=nd_cell (HK.out w' hR) 3;clear hR;simp only[Par.Gives];go_simp;all_goals exact HR.out
  ·have HR:=Lib.hid hR;have zl:=lt_of_heap (HK.out w' hR);clear hR;simp only[Par.Gives];go_simp;all_goals exact HR.out
  ·have HR:=Lib.hid hR;have z1:=nd_cell (HK.out w' hR) 4;clear hR;simp only[Par.Gives];go_simp;all_goals exact HR.out
  ·have HR:=Lib.hid hR;clear hR;simp only[Par.Gives];go_simp;all_goals exact HR.out
  ·have HR:=Lib.hid hR;have z1:=(HV.out w' hR).1;have z2:=(HV.out w' hR).2.1;have z3':=(HV.out w' hR).2.2.1;clear hR;simp only[Par.Gives];go_simp;all_goals exact HR.out
 case hT1 =>
  intro w' hR;simp only[List.drop_succ_cons,List.drop_zero];have hins:=HT.out.2.1 w' (below_on H2.out.1 hR);clear hR;go_wp2_with (go_at_call 39;(with_reducible refine hins.mono ?_);rintro e w4 ⟨rfl,hq⟩;have HQ:=Lib.hid hq;clear hins hq);go_ret2;exact⟨rfl,HQ.out⟩
end
section
variable {W:World} {d b m:Nat} {L:List PT}
theorem Rd2.rows (h:Rd2 W d b (pre 4) L) (hs:∀ x∈L,SmP m x) (hm:m<=390) {t:Nat} (ht:t<(pre 4).length) :
  Calls Tryz.prog 45 #[(Value.pointer (some ⟨d,0,none⟩)),(Value.pointer (some ⟨b,0,none⟩)),.int .i64 (t:Int),.string (pre 4)[t].nm] W fun e w'=>e=.returned (.bool true)/\Below W.heap.size W w':=by
 obtain⟨⟨st,O,h1,h2⟩,⟨tt,i,O',h3,h4⟩⟩:=h;have e1:t<st.length:=(by rw[h1.len];exact ht);have e2:t<tt.length:=by rw[h3.n];exact ht
 have hk:st[t].2=keyN tt[t]:=by
  have k1:(st.map (·.2))[t]?=(tt.map keyN)[t]?:=(by rw[h2,h4]);rw[List.getElem?_map,List.getElem?_map,List.getElem?_eq_getElem e1,List.getElem?_eq_getElem e2] at k1;exact Option.some.inj k1
 have hm1:(pre 4)[t]∈pre 4:=List.getElem_mem ht;exact rows_any h1 h3 ht e1 e2 hk (star_short _ hm1) (star_c _ hm1).1 (star_c _ hm1).2 (small_A h4 hs hm _ (List.getElem_mem e2)) (by decide)
theorem Rd2.same (h:Rd2 W d b (pre 4) L) (hs:∀ x∈L,SmP m x) (hm:m<=390):Calls Tryz.prog 19 #[(Value.pointer (some ⟨d,0,none⟩)),(Value.pointer (some ⟨b,0,none⟩))] W fun e w'=>e=.returned (.bool true)/\Below W.heap.size W w':=by
 obtain⟨tt0,i0,Ob0,hDN,hL0⟩:=h.nn;have hN4:tt0.length=4:=(by rw[hDN.n];rfl);obtain⟨psv,csv,esv,_,_⟩:=hDN.form.isslice;have esv:i0.sv=.slice psv 4 csv:=esv;have hbx0:=hDN.box;rw[esv] at hbx0;have HBX:Hid (∀ w,Below W.heap.size W w->w.cell? ⟨b,0,none⟩=some (.slice psv 4 csv)/\b<w.heap.size):=Lib.hid (fun w hw=>⟨nd_cell (heap_on hw hbx0) 0,lt_of_heap (heap_on hw hbx0)⟩);have HDN:=Lib.hid hDN;have HH:=Lib.hid (And.intro h (And.intro hs hm));clear hDN hL0 hbx0 esv h hs;go_enter Tryz.func19,Tryz.ntmps19;go_wp2_with fail;go_loopg [5] 5 (fun gh jv w=>∃ (t:Nat),jv=.int .i64 (t:Int)/\t<=4/\5<=t+gh/\Below W.heap.size W w)
 case atStart=>exact⟨0,rfl,Nat.zero_le _,by omega,Below.refl _ _⟩
 case round =>
  obtain⟨t,rfl,ht,hg,hB⟩:=hrel;obtain⟨x0,xl⟩:=HBX.out wr hB;by_cases hlt:t<4
  ·have hti:(t:Int)<4:=(by omega);have htp:t<(pre 4).length:=hlt;have htt:t<tt0.length:=(by omega);obtain⟨⟨gs,cs,go,co,gn,cn,pc,kc,pd,kd⟩,esv,eov,env,_,_,_,hR⟩:=HDN.out.reads htp (List.getElem?_eq_getElem htt);have hRw:=hR wr hB
   have epsv:psv=some ⟨gs,0,none⟩/\csv=cs:=by
    have h2:=hRw.b0;have h3:some (Value.slice psv 4 csv)=some (Value.slice (some ⟨gs,0,none⟩) 4 cs):=x0.symm.trans h2;cases h3;exact⟨rfl,rfl⟩
   obtain⟨rfl,rfl⟩:=epsv;have hc1:=(HH.out.1.later hB).rows HH.out.2.1 HH.out.2.2 htp;have y0:=hRw.s0;have yl:=hRw.sl;dsimp only at y0 yl;obtain⟨nm,hnm⟩:∃ x,(pre 4)[t].nm=x:=⟨_,rfl⟩;rw[hnm] at y0 hc1;have HB:=Lib.hid hB;clear hB hR hRw esv eov env hnm;go_wp2_with (go_at_call 45;(with_reducible refine hc1.mono ?_);rintro e w12 ⟨rfl,hb12⟩;have H12:=Lib.hid (below_on HB.out hb12);clear hc1 hb12);go_roundg (4-t)
   case measure=>omega
   case rel=>exact⟨t+1,by go_num,by omega,by omega,H12.out⟩
  ·obtain rfl:t=4:=(by omega);have HB:=Lib.hid hB;clear hB;go_wp2_with fail;go_ret;exact⟨rfl,HB.out⟩
end
