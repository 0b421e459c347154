import Derived.Test.YtjepplacnaoomaaGreatZc50
import Derived.Test.YtjepplacnaoomaaGreatZc49
import Derived.Test.YtjepplacnaoomaaGreatZc51
import Derived.Test.YtjepplacnaoomaaGreatZc44
import Derived.Test.YtjepplacnaoomaaGreatZc53
namespace Go.Proofs.YtjepplacnaoomaaGreat
open Go Go.RowKit Go.Proofs Co Co.S
theorem opok_cut {u : OpX} (h : F64 u.id) : OpOk (cutOp u):=by
 refine ⟨h,?_,?_,fun x hx=>?_,?_⟩
 ·exact Nat.le_trans (cutB_le 20 u.tbl) (by unfold maxLen; omega)
 ·exact Nat.le_trans (cutB_le 20 u.col) (by unfold maxLen; omega)
 ·have hx : x∈(cutR 7 u.vals):=hx
  unfold cutR at hx
  have h1:=List.mem_of_mem_take hx
  obtain ⟨y,_,rfl⟩:=List.mem_map.1 h1
  exact Nat.le_trans (cutB_le 20 y.2.2) (by unfold maxLen; omega)
 ·exact Nat.le_trans (cutR_len 7 u.vals) (by omega)
theorem ops_ok {L : List OpX} (h : ∀ o∈L,F64 o.id) (M : Nat) : ∀ o∈(L.take M).map cutOp,OpOk o:=fun o ho=>by
 obtain ⟨u,hu,rfl⟩:=List.mem_map.1 ho
 exact opok_cut (h u (List.mem_of_mem_take hu))
theorem opsR_later {W w : World} {p : Option Addr} {L : List OpX} (h : OpsR W p L) (hb : Below W.heap.size W w) : OpsR w p L:=fun j hj=>by
 obtain ⟨b,off,vv,e,hlt,c0,c1,c2,c3,c4,hv,h1,h2,h3⟩:=h j hj
 have hk:=hb.block b hlt
 have hc : ∀ (o : Nat) (v : Value),W.cell? ⟨b,o,none⟩=some v→w.cell? ⟨b,o,none⟩=some v:=fun o v hv=>(World.cell?_of_block (a:=⟨b,o,none⟩) hk).trans hv
 exact ⟨b,off,vv,e,Nat.lt_of_lt_of_le hlt hb.size,hc _ _ c0,hc _ _ c1,hc _ _ c2,hc _ _ c3,hc _ _ c4,(hv.later hb).mono (fun q _ hq=>Nat.lt_of_lt_of_le hq hb.size),h1,h2,h3⟩
abbrev Lz : List PT:=List.replicate 4 (0,[])
theorem Lz_sm : ∀ x∈Lz,SmP 0 x:=fun x hx=>by
 obtain rfl:=List.eq_of_mem_replicate hx
 exact ⟨Nat.le_refl _,Nat.le_refl _⟩
theorem star_c : ∀ t∈pre 4,0<t.cols.length∧t.cols.length≤1000:=fun t ht=>⟨(star_cols4 t ht).1,by have:=(star_cols4 t ht).2; omega⟩
theorem fill_star {W w w1 : World} {d b : Nat} {ps : List Nat} {tv : Value} {L : List OpX} {M : Nat} (h : PD (fun q=>q<W.heap.size) W w d b (pre 4) ps Lz Lz) (hb : Below w.heap.size w w1) (ho : OpsO w1 w.heap.size tv ((L.take M).map cutOp)) (hL : ∀ o∈L,F64 o.id) (hM : M≤60) :
  Calls Tryz.prog 15 #[(Value.pointer (some ⟨d,0,none⟩)),(Value.pointer (some ⟨b,0,none⟩)),tv] w1 fun e w'=>e=.returned (.tuple #[])∧PD (fun q=>q<W.heap.size) W w' d b (pre 4) ps (fillP (pre 4) Lz ((L.take M).map cutOp)) (fillP (pre 4) Lz ((L.take M).map cutOp)):=by
 have hw:=h.with hb
 refine (fill_any hw ho (fun q h1 h2=>.inr ⟨h1,h2⟩) (pre_inv 4 (by decide)) (pre_few 4) star_short star_c Lz_sm Lz_sm (by rw [List.length_map,List.length_take]; omega) (ops_ok hL M)).mono ?_
 rintro e w' ⟨rfl,hP⟩
 exact ⟨rfl,(h.later hb).back hP (fun q hq=>.inl hq)⟩
theorem fill_small {L : List OpX} {M : Nat} (hM : M≤60) : ∀ x∈fillP (pre 4) Lz ((L.take M).map cutOp),SmP 60 x:=fun x hx=>by
 have:=fillP_sm (ts:=pre 4) (l:=(L.take M).map cutOp) Lz_sm x hx
 rw [List.length_map,List.length_take] at this
 exact this.mono (by omega)
structure Rd2 (W : World) (d b : Nat) (ts : List T) (L : List PT) : Prop where
 dd : ∃ st O,Dd W d ts st O∧st.map (·.2)=L
 nn : ∃ tt i O,DbN W b ts tt i O∧tt.map keyN=L
theorem Rd2.later {W w : World} {d b : Nat} {ts : List T} {L : List PT} (h : Rd2 W d b ts L) (hb : Below W.heap.size W w) : Rd2 w d b ts L:=by
 obtain ⟨⟨st,O,h1,h2⟩,⟨tt,i,O',h3,h4⟩⟩:=h
 exact ⟨⟨st,O,h1.later hb,h2⟩,⟨tt,i,O',h3.later hb,h4⟩⟩
theorem PD.rd2 {K : Nat→Prop} {W0 w : World} {d b : Nat} {ts : List T} {ps : List Nat} {L : List PT} (h : PD K W0 w d b ts ps L L) : Rd2 w d b ts L:=by
 obtain ⟨st,O,h1,_,h2⟩:=h.dd
 obtain ⟨tt,i,O',h3,h4⟩:=h.dbn
 exact ⟨⟨st,O,h1,h2⟩,⟨tt,i,O',h3,h4⟩⟩
section
variable {W : World} {d b : Nat} {L : List PT} {m : Nat}
theorem small_A {tt : List RT} (h : tt.map keyN=L) (hs : ∀ x∈L,SmP m x) (hm : m≤390) : ∀ y∈tt,y.A.length≤100000:=fun y hy=>by
 have h1 : keyN y∈L:=by rw [← h]; exact List.mem_map_of_mem hy
 obtain ⟨a1,a2⟩:=hs _ h1
 have a1 : y.nx≤m:=a1
 have a2 : y.A.length≤y.nx:=a2
 omega
theorem Rd2.copyD (h : Rd2 W d b (pre 4) L) (hs : ∀ x∈L,SmP m x) (hm : m≤390) : Calls Tryz.prog 17 #[(Value.pointer (some ⟨d,0,none⟩))] W fun e w'=>∃ d2,e=.returned (Value.pointer (some ⟨d2,0,none⟩))∧Rd2 w' d2 b (pre 4) L∧(∃ st2 O2,Dd w' d2 (pre 4) st2 O2∧st2.map (·.2)=L∧∀ q,O2 q≠0→W.heap.size≤q)∧Below W.heap.size W w':=by
 have h0:=h
 obtain ⟨⟨st,O,h1,h2⟩,_⟩:=h
 refine (dcopy_any h1 (pre_few 4) star_short star_kd (fun t ht=>(star_c t ht).1) (fun s hs'=>?_) (by decide)).mono ?_
 ·have h3 : s.2∈L:=by rw [← h2]; exact List.mem_map_of_mem hs'
  have:=(hs _ h3).1
  omega
 ·rintro e w' ⟨d2,st2,O2,rfl,a1,a2,a3,a4⟩
  exact ⟨d2,rfl,⟨⟨st2,O2,a1,a2.trans h2⟩,(h0.later a4).nn⟩,⟨st2,O2,a1,a2.trans h2,a3⟩,a4⟩
end
theorem fill_more {W w w1 : World} {d b : Nat} {ps : List Nat} {tv : Value} {L : List OpX} {M m : Nat} {L1 : List PT} (h : PD (fun q=>q<W.heap.size) W w d b (pre 4) ps L1 L1) (hb : Below w.heap.size w w1) (ho : OpsO w1 w.heap.size tv ((L.take M).map cutOp)) (hL : ∀ o∈L,F64 o.id) (hs : ∀ x∈L1,SmP m x) (hM : m+M≤390) :
  Calls Tryz.prog 15 #[(Value.pointer (some ⟨d,0,none⟩)),(Value.pointer (some ⟨b,0,none⟩)),tv] w1 fun e w'=>e=.returned (.tuple #[])∧PD (fun q=>q<W.heap.size) W w' d b (pre 4) ps (fillP (pre 4) L1 ((L.take M).map cutOp)) (fillP (pre 4) L1 ((L.take M).map cutOp)):=by
 have hw:=h.with hb
 have hlen : ((L.take M).map cutOp).length≤M:=by rw [List.length_map,List.length_take]; omega
 refine (fill_any hw ho (fun q h1 h2=>.inr ⟨h1,h2⟩) (pre_inv 4 (by decide)) (pre_few 4) star_short star_c hs hs (by omega) (ops_ok hL M)).mono ?_
 rintro e w' ⟨rfl,hP⟩
 exact ⟨rfl,(h.later hb).back hP (fun q hq=>.inl hq)⟩
theorem fill_small2 {L : List OpX} {M m : Nat} {L1 : List PT} (hs : ∀ x∈L1,SmP m x) : ∀ x∈fillP (pre 4) L1 ((L.take M).map cutOp),SmP (m+M) x:=fun x hx=>by
 have:=fillP_sm (ts:=pre 4) (l:=(L.take M).map cutOp) hs x hx
 rw [List.length_map,List.length_take] at this
 exact this.mono (by omega)
section
variable {W : World} {d b m : Nat} {L : List PT}
theorem Rd2.rows (h : Rd2 W d b (pre 4) L) (hs : ∀ x∈L,SmP m x) (hm : m≤390) {t : Nat} (ht : t<(pre 4).length) :
  Calls Tryz.prog 25 #[(Value.pointer (some ⟨d,0,none⟩)),(Value.pointer (some ⟨b,0,none⟩)),.int .i64 (t : Int),.string (pre 4)[t].nm] W fun e w'=>e=.returned (.bool true)∧Below W.heap.size W w':=by
 obtain ⟨⟨st,O,h1,h2⟩,⟨tt,i,O',h3,h4⟩⟩:=h
 have e1 : t<st.length:=by rw [h1.len]; exact ht
 have e2 : t<tt.length:=by rw [h3.n]; exact ht
 have hk : st[t].2=keyN tt[t]:=by
  have k1 : (st.map (·.2))[t]?=(tt.map keyN)[t]?:=by rw [h2,h4]
  rw [List.getElem?_map,List.getElem?_map,List.getElem?_eq_getElem e1,List.getElem?_eq_getElem e2] at k1
  exact Option.some.inj k1
 have hm1 : (pre 4)[t]∈pre 4:=List.getElem_mem ht
 exact rows_any h1 h3 ht e1 e2 hk (star_short _ hm1) (star_c _ hm1).1 (star_c _ hm1).2 (small_A h4 hs hm _ (List.getElem_mem e2)) (by decide)
theorem Rd2.copy2 (h : Rd2 W d b (pre 4) L) (hs : ∀ x∈L,SmP m x) (hm : m≤390) : Calls Tryz.prog 17 #[(Value.pointer (some ⟨d,0,none⟩))] W fun e w8=>∃ d2,e=.returned (Value.pointer (some ⟨d2,0,none⟩))∧Below W.heap.size W w8 ∧
  Calls Tryz.prog 24 #[(Value.pointer (some ⟨b,0,none⟩))] w8 fun e w9=>∃ b2 ps,e=.returned (Value.pointer (some ⟨b2,0,none⟩))∧PD (fun q=>q<W.heap.size) W w9 d2 b2 (pre 4) ps L L:=by
 refine (h.copyD hs hm).mono ?_
 rintro e w8 ⟨d2,rfl,h8,⟨st2,O2,k1,k2,k3⟩,hb8⟩
 refine ⟨d2,rfl,hb8,?_⟩
 obtain ⟨_,⟨tt,i,O',h3,h4⟩⟩:=h8
 refine (ncopy_any h3 (small_A h4 hs hm) (fun t ht=>(star_c t ht).1) (fun t ht=>(star_c t ht).2) (by decide) (by decide)).mono ?_
 rintro e w9 ⟨b2,tt2,i2,O3,rfl,n1,n2,n3,hb9⟩
 refine ⟨b2,st2.map (·.1),rfl,st2,tt2,⟨O2,O3,i2,k1.later hb9,n1,fun q hq=>?_,fun q hq=>⟨hq,?_,?_⟩,(Tn.of_below (S:=fun q=>¬ q<W.heap.size) (below_on hb8 hb9))⟩,rfl,k2,n2.trans h4⟩
 ·refine Classical.byContradiction fun hn=>?_
  have:=k1.lt q hq
  have:=n3 q hn
  omega
 ·refine Classical.byContradiction fun hn=>?_
  have:=k3 q hn
  omega
 ·refine Classical.byContradiction fun hn=>?_
  have:=n3 q hn
  have:=hb8.size
  omega
end
set_option maxRecDepth 100000 in
set_option maxHeartbeats 8000000 in
theorem copy12_law {p0 q0 : Option Addr} {c0 c1 : Nat} {L M : List OpX} (W : World) (hL : OpsR W p0 L) (hLm : L.length≤maxLen) (hid : ∀ o∈L,F64 o.id) (hM : OpsR W q0 M) (hMm : M.length≤maxLen) (hid2 : ∀ o∈M,F64 o.id) :
  Calls Tryz.prog 5 #[.slice p0 L.length c0,.slice q0 M.length c1] W fun e w'=>e=.returned (.bool true)∧Below W.heap.size W w':=by
 have hbeg:=begun12_any W
 obtain ⟨n,hn⟩ : ∃ n,L.length=n:=⟨_,rfl⟩
 obtain ⟨n',hn'⟩ : ∃ n,M.length=n:=⟨_,rfl⟩
 have HA:=Lib.hid (And.intro hL (And.intro hLm (And.intro hid (And.intro hM (And.intro hMm (And.intro hid2 (And.intro hn hn')))))))
 rw [hn,hn']
 clear hL hLm hid hM hMm hid2 hn hn'
 go_enter Tryz.func5,Tryz.ntmps5
 go_upto_region 4 with (go_at_call 11; (with_reducible refine hbeg.mono ?_); rintro e w4 ⟨rfl,hb2⟩; have H4:=Lib.hid hb2; clear hbeg hb2)
 have hstar:=star_pd w4
 go_upto_region 5 with (go_at_call 14; (with_reducible refine hstar.mono ?_); rintro e w5 ⟨d,b,ps,rfl,hP5⟩; have HP5:=Lib.hid hP5; clear hstar hP5)
 have hb5:=HP5.out.bel (Below.refl _ _) (fun q hq=>hq)
 have hops:=ops_any (W:=w5) (c:=c0) 20 (by decide) (opsR_later HA.out.1 (below_on H4.out hb5)) HA.out.2.1
 rw [HA.out.2.2.2.2.2.2.1] at hops
 have hops : Calls Tryz.prog 16 #[.slice p0 n c0,.int .i64 20] w5 _:=hops
 have HB5:=Lib.hid (below_on H4.out hb5)
 clear hb5
 go_upto_region 6 with (first
  | (go_at_call 16; (with_reducible refine hops.mono ?_); rintro e w6 ⟨tv,rfl,ho,hb6⟩; have hfill:=fill_star HP5.out hb6 ho HA.out.2.2.1 (by decide); clear hops ho hb6)
  | (go_at_call 15; (with_reducible refine hfill.mono ?_); rintro e w7 ⟨rfl,hP7⟩; have HP7:=Lib.hid hP7; clear hfill hP7))
 obtain ⟨L',hL'⟩ : ∃ x,fillP (pre 4) Lz ((L.take 20).map cutOp)=x:=⟨_,rfl⟩
 have hsm : ∀ x∈L',SmP 60 x:=by rw [← hL']; exact fill_small (by decide)
 rw [hL'] at HP7
 have hR7:=HP7.out.rd2
 have hB7:=below_on H4.out (HP7.out.bel (Below.refl _ _) (fun q hq=>hq))
 have hcp:=hR7.copy2 hsm (by decide)
 have H7:=Lib.hid (And.intro hR7 (And.intro hB7 hsm))
 clear hL' hsm hR7 hB7
 go_upto_region 7 with (first
  | (go_at_call 17; (with_reducible refine hcp.mono ?_); rintro e w8 ⟨d2,rfl,hb8,hcn⟩; have H8:=Lib.hid hb8; clear hcp hb8)
  | (go_at_call 24; (with_reducible refine hcn.mono ?_); rintro e w9 ⟨b2,ps2,rfl,hP9⟩; have HP9:=Lib.hid hP9; clear hcn hP9))
 have hb9:=HP9.out.bel (Below.refl _ _) (fun q hq=>hq)
 have hops:=ops_any (W:=w9) (c:=c1) 20 (by decide) (opsR_later HA.out.2.2.2.1 (below_on H7.out.2.1 hb9)) HA.out.2.2.2.2.1
 rw [HA.out.2.2.2.2.2.2.2] at hops
 have hops : Calls Tryz.prog 16 #[.slice q0 n' c1,.int .i64 20] w9 _:=hops
 clear hb9
 go_upto_region 8 with (first
  | (go_at_call 16; (with_reducible refine hops.mono ?_); rintro e w10 ⟨tv,rfl,ho,hb10⟩; have hfill:=fill_more HP9.out hb10 ho HA.out.2.2.2.2.2.1 H7.out.2.2 (by decide); clear hops ho hb10)
  | (go_at_call 15; (with_reducible refine hfill.mono ?_); rintro e w11 ⟨rfl,hP11⟩; have HP11:=Lib.hid hP11; clear hfill hP11))
 obtain ⟨L2,hL2⟩ : ∃ x,fillP (pre 4) L' ((M.take 20).map cutOp)=x:=⟨_,rfl⟩
 have hsm2 : ∀ x∈L2,SmP 80 x:=by rw [← hL2]; exact fill_small2 H7.out.2.2
 rw [hL2] at HP11
 have hb11:=HP11.out.bel (Below.refl _ _) (fun q hq=>hq)
 have H11:=Lib.hid (And.intro (H7.out.1.later hb11) (And.intro HP11.out.rd2 (And.intro hsm2 (below_on H7.out.2.1 hb11))))
 clear hL2 hsm2 hb11
 obtain ⟨tt0,i0,Ob0,hDN,hL0⟩:=H11.out.1.nn
 have hN4 : tt0.length=4:=by rw [hDN.n]; rfl
 have HDN:=Lib.hid hDN
 have hbx0:=hDN.box
 obtain ⟨psv,csv,esv,_,_⟩:=hDN.form.isslice
 have esv : i0.sv=.slice psv 4 csv:=esv
 rw [esv] at hbx0
 have HBX : Hid (∀ w,Below w11.heap.size w11 w→w.cell? ⟨b,0,none⟩=some (.slice psv 4 csv)∧b<w.heap.size):=Lib.hid (fun w hw=>⟨nd_cell (heap_on hw hbx0) 0,lt_of_heap (heap_on hw hbx0)⟩)
 clear hDN hL0 hbx0 esv
 go_wp2_with fail
 go_loopg [10] 5 (fun gh jv w=>∃ (t : Nat),jv=.int .i64 (t : Int)∧t≤4∧5≤t+gh∧Below w11.heap.size w11 w)
 case atStart=>exact ⟨0,rfl,Nat.zero_le _,by omega,Below.refl _ _⟩
 case round =>
  obtain ⟨t,rfl,ht,hg,hB⟩:=hrel
  obtain ⟨x0,xl⟩:=HBX.out wr hB
  by_cases hlt : t<4
  ·have hti : (t : Int)<4:=by omega
   have htp : t<(pre 4).length:=hlt
   have htt : t<tt0.length:=by omega
   obtain ⟨⟨gs,cs,go,co,gn,cn,pc,kc,pd,kd⟩,esv,eov,env,_,_,_,hR⟩:=HDN.out.reads htp (List.getElem?_eq_getElem htt)
   have hRw:=hR wr hB
   have epsv : psv=some ⟨gs,0,none⟩∧csv=cs:=by
    have h2:=hRw.b0
    have h3 : some (Value.slice psv 4 csv)=some (Value.slice (some ⟨gs,0,none⟩) 4 cs):=x0.symm.trans h2
    cases h3; exact ⟨rfl,rfl⟩
   obtain ⟨rfl,rfl⟩:=epsv
   have hc1:=(H11.out.1.later hB).rows H7.out.2.2 (by decide) htp
   have HC2 : Hid (∀ w,Below w11.heap.size w11 w→Calls Tryz.prog 25 #[(Value.pointer (some ⟨d2,0,none⟩)),(Value.pointer (some ⟨b2,0,none⟩)),.int .i64 (t : Int),.string (pre 4)[t].nm] w fun e w'=>e=.returned (.bool true)∧Below w.heap.size w w'):=Lib.hid (fun w hw=>(H11.out.2.1.later hw).rows H11.out.2.2.1 (by decide) htp)
   have y0:=hRw.s0
   have yl:=hRw.sl
   dsimp only at y0 yl
   obtain ⟨nm,hnm⟩ : ∃ x,(pre 4)[t].nm=x:=⟨_,rfl⟩
   rw [hnm] at y0 hc1 HC2
   have HB:=Lib.hid hB
   clear hB hR hRw esv eov env hnm
   go_wp2_with (first
    | (go_at_call 25; (with_reducible refine hc1.mono ?_); rintro e w12 ⟨rfl,hb12⟩; have H12:=Lib.hid (below_on HB.out hb12); have hc2:=HC2.out w12 H12.out; clear hc1 hb12)
    | (go_at_call 25; (with_reducible refine hc2.mono ?_); rintro e w13 ⟨rfl,hb13⟩; have H13:=Lib.hid (below_on H12.out hb13); clear hc2 hb13))
   go_roundg (4 - t)
   case measure=>omega
   case rel=>exact ⟨t+1,by go_num,by omega,by omega,H13.out⟩
  ·obtain rfl : t=4:=by omega
   have HB:=Lib.hid hB
   clear hB
   go_wp2_with fail
   go_ret
   exact ⟨rfl,below_on H11.out.2.2.2 HB.out⟩
end Go.Proofs.YtjepplacnaoomaaGreat
