import Derived.Test.YtjepplacnaoomaaGreatZa52
import Derived.Test.YtjepplacnaoomaaGreatZa51
import Derived.Test.YtjepplacnaoomaaGreatZa53
namespace Go.Proofs.YtjepplacnaoomaaGreat
open Go Go.RowKit Go.Proofs Co Co.S
theorem opok_cut {u : OpX} (h : F64 u.id) : OpOk (cutOp u):=by
 refine ⟨h,?_,?_,fun x hx=>?_,?_⟩
 ·exact Nat.le_trans (cutB_le 20 u.tbl) (by unfold maxLen; omega)
 ·exact Nat.le_trans (cutB_le 20 u.col) (by unfold maxLen; omega)
 ·have hx : x∈(cutR 7 u.vals):=hx
  unfold cutR at hx
  have h1:=List.mem_of_mem_take hx
  obtain ⟨y,_,rfl⟩:=List.mem_map.1 h1
  exact Nat.le_trans (cutB_le 20 y.2.2) (by unfold maxLen; omega)
 ·exact Nat.le_trans (cutR_len 7 u.vals) (by omega)
theorem ops_ok {L : List OpX} (h : ∀ o∈L,F64 o.id) (M : Nat) : ∀ o∈(L.take M).map cutOp,OpOk o:=fun o ho=>by
 obtain ⟨u,hu,rfl⟩:=List.mem_map.1 ho
 exact opok_cut (h u (List.mem_of_mem_take hu))
theorem HRow.wdQ {W : World} {v : Value} {l : List ByteArray} {base n : Nat} (h : HRow W base 9 1 v n (cellsS l)) : Wd W v l:=by
 have hl : l.length=n:=by have:=h.1; rw [cellsS_len] at this; omega
 subst hl
 rcases h.2 with ⟨rfl,hn⟩ | ⟨g,cap,cur,rfl,hb,hg,hn,hc,hs,ht⟩
 ·exact ⟨none,0,by rw [hn],by omega,Nat.zero_le _,fun a h=>(by cases h),fun h=>absurd h (by omega)⟩
 ·refine ⟨some ⟨g,0,none⟩,cap,rfl,hn,hc,fun a h=>(by cases h; rfl),fun _=>⟨g,0,cur,_,rfl,hg,fun j hj=>?_⟩⟩
  have e : (cellsS l)[j]?=some (.string l[j]):=by unfold cellsS; rw [List.getElem?_map,List.getElem?_eq_getElem hj]; rfl
  rw [← ht,List.getElem?_take] at e
  split at e
  ·rw [Nat.zero_add,← Array.getElem?_toList]; exact e
  ·cases e
theorem opsR_later {W w : World} {p : Option Addr} {L : List OpX} (h : OpsR W p L) (hb : Below W.heap.size W w) : OpsR w p L:=fun j hj=>by
 obtain ⟨b,off,vv,e,hlt,c0,c1,c2,c3,c4,hv,h1,h2,h3⟩:=h j hj
 have hk:=hb.block b hlt
 have hc : ∀ (o : Nat) (v : Value),W.cell? ⟨b,o,none⟩=some v→w.cell? ⟨b,o,none⟩=some v:=fun o v hv=>(World.cell?_of_block (a:=⟨b,o,none⟩) hk).trans hv
 exact ⟨b,off,vv,e,Nat.lt_of_lt_of_le hlt hb.size,hc _ _ c0,hc _ _ c1,hc _ _ c2,hc _ _ c3,hc _ _ c4,(hv.later hb).mono (fun q _ hq=>Nat.lt_of_lt_of_le hq hb.size),h1,h2,h3⟩
abbrev Lz : List PT:=List.replicate 4 (0,[])
theorem Lz_sm : ∀ x∈Lz,SmP 0 x:=fun x hx=>by
 obtain rfl:=List.eq_of_mem_replicate hx
 exact ⟨Nat.le_refl _,Nat.le_refl _⟩
theorem star_c : ∀ t∈pre 4,0<t.cols.length∧t.cols.length≤1000:=fun t ht=>⟨(star_cols4 t ht).1,by have:=(star_cols4 t ht).2; omega⟩
theorem fill_star {W w w1 : World} {d b : Nat} {ps : List Nat} {tv : Value} {L : List OpX} {M : Nat} (h : PD (fun q=>q<W.heap.size) W w d b (pre 4) ps Lz Lz) (hb : Below w.heap.size w w1) (ho : OpsO w1 w.heap.size tv ((L.take M).map cutOp)) (hL : ∀ o∈L,F64 o.id) (hM : M≤60) :
  Calls Tryz.prog 15 #[(Value.pointer (some ⟨d,0,none⟩)),(Value.pointer (some ⟨b,0,none⟩)),tv] w1 fun e w'=>e=.returned (.tuple #[])∧PD (fun q=>q<W.heap.size) W w' d b (pre 4) ps (fillP (pre 4) Lz ((L.take M).map cutOp)) (fillP (pre 4) Lz ((L.take M).map cutOp)):=by
 have hw:=h.with hb
 refine (fill_any hw ho (fun q h1 h2=>.inr ⟨h1,h2⟩) (pre_inv 4 (by decide)) (pre_few 4) star_short star_c Lz_sm Lz_sm (by rw [List.length_map,List.length_take]; omega) (ops_ok hL M)).mono ?_
 rintro e w' ⟨rfl,hP⟩
 exact ⟨rfl,(h.later hb).back hP (fun q hq=>.inl hq)⟩
theorem fill_small {L : List OpX} {M : Nat} (hM : M≤60) : ∀ x∈fillP (pre 4) Lz ((L.take M).map cutOp),SmP 60 x:=fun x hx=>by
 have:=fillP_sm (ts:=pre 4) (l:=(L.take M).map cutOp) Lz_sm x hx
 rw [List.length_map,List.length_take] at this
 exact this.mono (by omega)
structure Rd2 (W : World) (d b : Nat) (ts : List T) (L : List PT) : Prop where
 dd : ∃ st O,Dd W d ts st O∧st.map (·.2)=L
 nn : ∃ tt i O,DbN W b ts tt i O∧tt.map keyN=L
theorem Rd2.later {W w : World} {d b : Nat} {ts : List T} {L : List PT} (h : Rd2 W d b ts L) (hb : Below W.heap.size W w) : Rd2 w d b ts L:=by
 obtain ⟨⟨st,O,h1,h2⟩,⟨tt,i,O',h3,h4⟩⟩:=h
 exact ⟨⟨st,O,h1.later hb,h2⟩,⟨tt,i,O',h3.later hb,h4⟩⟩
theorem PD.rd2 {K : Nat→Prop} {W0 w : World} {d b : Nat} {ts : List T} {ps : List Nat} {L : List PT} (h : PD K W0 w d b ts ps L L) : Rd2 w d b ts L:=by
 obtain ⟨st,O,h1,_,h2⟩:=h.dd
 obtain ⟨tt,i,O',h3,h4⟩:=h.dbn
 exact ⟨⟨st,O,h1,h2⟩,⟨tt,i,O',h3,h4⟩⟩
theorem rowsN_map {tt : List RT} {L : List PT} (h : tt.map keyN=L) : rowsN tt=rowsL L:=by
 subst h
 show tt.map _=(tt.map _).map _
 rw [List.map_map]; rfl
section
variable {W : World} {d b : Nat} {L : List PT} {m : Nat}
theorem small_A {tt : List RT} (h : tt.map keyN=L) (hs : ∀ x∈L,SmP m x) (hm : m≤390) : ∀ y∈tt,y.A.length≤100000:=fun y hy=>by
 have h1 : keyN y∈L:=by rw [← h]; exact List.mem_map_of_mem hy
 obtain ⟨a1,a2⟩:=hs _ h1
 have a1 : y.nx≤m:=a1
 have a2 : y.A.length≤y.nx:=a2
 omega
theorem Rd2.valueD (h : Rd2 W d b (pre 4) L) {v : Value} (x : ByteArray) {id : Int} {p : List ByteArray} (hid : F64 id) (hp : Wd W v p) :
  Calls Tryz.prog 20 #[(Value.pointer (some ⟨d,0,none⟩)),.string x,.int .i64 id,v] W fun e w'=>e=.returned (.tuple #[(Value.agg #[Value.int .i64 ((valueP (pre 4) (rowsL L) x id p).1.1),Value.int .i64 ((valueP (pre 4) (rowsL L) x id p).1.2.1),Value.string ((valueP (pre 4) (rowsL L) x id p).1.2.2)]),.bool (valueP (pre 4) (rowsL L) x id p).2])∧Below W.heap.size W w':=by
 obtain ⟨⟨st,O,h1,h2⟩,_⟩:=h
 rw [← rowsOf_map h2]
 exact dvalue_any h1 (pre_inv 4 (by decide)) (pre_few 4) star_short x hid hp
theorem Rd2.valueN (h : Rd2 W d b (pre 4) L) (hs : ∀ x∈L,SmP m x) (hm : m≤390) {v : Value} (x : ByteArray) (id : Int) {p : List ByteArray} (hp : Wd W v p) :
  Calls Tryz.prog 21 #[(Value.pointer (some ⟨b,0,none⟩)),.string x,.int .i64 id,v] W fun e w'=>e=.returned (.tuple #[(Value.agg #[Value.int .i64 ((valueP (pre 4) (rowsL L) x id p).1.1),Value.int .i64 ((valueP (pre 4) (rowsL L) x id p).1.2.1),Value.string ((valueP (pre 4) (rowsL L) x id p).1.2.2)]),.bool (valueP (pre 4) (rowsL L) x id p).2])∧Below W.heap.size W w':=by
 obtain ⟨_,⟨tt,i,O',h3,h4⟩⟩:=h
 rw [← rowsN_map h4]
 exact nvalue_any h3 (pre_inv 4 (by decide)) (fun t ht=>(star_c t ht).2) (small_A h4 hs hm) x id hp
theorem Rd2.bykeyD (h : Rd2 W d b (pre 4) L) (x : ByteArray) (u : T3) :
  Calls Tryz.prog 18 #[(Value.pointer (some ⟨d,0,none⟩)),.string x,(Value.agg #[Value.int .i64 (u.1),Value.int .i64 (u.2.1),Value.string (u.2.2)])] W fun e w'=>e=.returned (.tuple #[.int .i64 ((byKeyP (pre 4) (rowsL L) x u).getD 0),.bool (byKeyP (pre 4) (rowsL L) x u).isSome])∧Below W.heap.size W w':=by
 obtain ⟨⟨st,O,h1,h2⟩,_⟩:=h
 rw [← rowsOf_map h2]
 exact dbykey_any h1 (pre_inv 4 (by decide)) (pre_few 4) star_short x u
theorem Rd2.bykeyN (h : Rd2 W d b (pre 4) L) (hs : ∀ x∈L,SmP m x) (hm : m≤390) (x : ByteArray) (u : T3) :
  Calls Tryz.prog 19 #[(Value.pointer (some ⟨b,0,none⟩)),.string x,(Value.agg #[Value.int .i64 (u.1),Value.int .i64 (u.2.1),Value.string (u.2.2)])] W fun e w'=>e=.returned (.tuple #[.int .i64 ((byKeyP (pre 4) (rowsL L) x u).getD 0),.bool (byKeyP (pre 4) (rowsL L) x u).isSome])∧Below W.heap.size W w':=by
 obtain ⟨_,⟨tt,i,O',h3,h4⟩⟩:=h
 rw [← rowsN_map h4]
 exact nbykey_any h3 (pre_inv 4 (by decide)) (fun t ht=>(star_c t ht).2) (small_A h4 hs hm) x u
theorem Rd2.copyD (h : Rd2 W d b (pre 4) L) (hs : ∀ x∈L,SmP m x) (hm : m≤390) : Calls Tryz.prog 17 #[(Value.pointer (some ⟨d,0,none⟩))] W fun e w'=>∃ d2,e=.returned (Value.pointer (some ⟨d2,0,none⟩))∧Rd2 w' d2 b (pre 4) L∧(∃ st2 O2,Dd w' d2 (pre 4) st2 O2∧st2.map (·.2)=L∧∀ q,O2 q≠0→W.heap.size≤q)∧Below W.heap.size W w':=by
 have h0:=h
 obtain ⟨⟨st,O,h1,h2⟩,_⟩:=h
 refine (dcopy_any h1 (pre_few 4) star_short star_kd (fun t ht=>(star_c t ht).1) (fun s hs'=>?_) (by decide)).mono ?_
 ·have h3 : s.2∈L:=by rw [← h2]; exact List.mem_map_of_mem hs'
  have:=(hs _ h3).1
  omega
 ·rintro e w' ⟨d2,st2,O2,rfl,a1,a2,a3,a4⟩
  exact ⟨d2,rfl,⟨⟨st2,O2,a1,a2.trans h2⟩,(h0.later a4).nn⟩,⟨st2,O2,a1,a2.trans h2,a3⟩,a4⟩
end
section
open Par
structure JP (W : World) (B : Nat) (l0 : List ByteArray) (E : Nat→Value) (u : T3) (l : Nat→Bool) (vs : Nat→Value) (w : World) : Prop where
 bel : Below W.heap.size W w
 ev : ∀ j,j≠1→l j=true→vs j=E j
 v1 : l 1=true→∃ p n c,vs 1=.slice p n c∧HRow w (B+1) 9 1 (.slice p n c) n (cellsS l0)
 box : w.heap[B]?=some (.cells #[.int .i64 u.1,.int .i64 u.2.1,.string u.2.2] 26)
variable {W w w' : World} {B : Nat} {l0 : List ByteArray} {E : Nat→Value} {u : T3} {l : Nat→Bool} {vs : Nat→Value}
theorem JP.up (h : JP W B l0 E u l vs w) (i : Nat) (hi : i≠1) : JP W B l0 E u (upB l i) (upV vs i (E i)) w:=by
 refine ⟨h.bel,fun j a hl=>?_,fun hl=>?_,h.box⟩
 ·by_cases e : j=i
  ·subst e; rw [upV_eq]
  ·rw [upV_ne e]; rw [upB_ne e] at hl; exact h.ev j a hl
 ·rw [upB_ne (fun e=>hi e.symm)] at hl
  rw [upV_ne (fun e=>hi e.symm)]; exact h.v1 hl
theorem JP.on (h : JP W B l0 E u l vs w) (hb : Below w.heap.size w w') : JP W B l0 E u l vs w':=by
 refine ⟨below_on h.bel hb,h.ev,fun hl=>?_,heap_on hb h.box⟩
 obtain ⟨p,n,c,e,hr⟩:=h.v1 hl
 exact ⟨p,n,c,e,hr.later hb⟩
theorem JP.path (h : JP W B l0 E u l vs w) (hb : Below w.heap.size w w') {p : Option Addr} {n c : Nat} (hr : HRow w' w.heap.size 9 1 (.slice p n c) n (cellsS l0)) : JP W B l0 E u (upB l 1) (upV vs 1 (.slice p n c)) w':=by
 have hB:=lt_of_heap h.box
 have h:=h.on hb
 refine ⟨h.bel,fun j a hl=>?_,fun hl=>⟨p,n,c,upV_eq,hr.mono hB⟩,h.box⟩
 rw [upV_ne a]; rw [upB_ne a] at hl; exact h.ev j a hl
end
set_option maxRecDepth 100000 in
set_option maxHeartbeats 8000000 in
theorem all12_law {p0 : Option Addr} {c0 : Nat} {L : List OpX} {pv : Value} {l0 : List ByteArray} (k0 n0 : Int) (s0 : ByteArray) (which : Int) (W : World) (hL : OpsR W p0 L) (hLm : L.length≤maxLen) (hid : ∀ o∈L,F64 o.id) (hp : InS W pv l0) (hs0 : s0.size≤maxLen) :
  Calls Tryz.prog 3 #[.slice p0 L.length c0,pv,(Value.agg #[Value.int .i64 (k0),Value.int .i64 (n0),Value.string (s0)]),.int .i64 which] W fun e w'=>e=.returned (.bool true)∧Below W.heap.size W w':=by
 have hb1:=below_alloc W (.cells #[.int .i64 k0,.int .i64 n0,.string s0] 26)
 have k1:=heap_alloc_new W (.cells #[.int .i64 k0,.int .i64 n0,.string s0] 26)
 obtain ⟨w1,hw1⟩ : ∃ w1,W.alloc (.cells #[.int .i64 k0,.int .i64 n0,.string s0] 26)=w1:=⟨_,rfl⟩
 obtain ⟨B,hB⟩ : ∃ B,W.heap.size=B:=⟨_,rfl⟩
 rw [hw1] at hb1 k1
 rw [hB] at k1
 have hbeg:=begun12_any w1
 obtain ⟨n,hn⟩ : ∃ n,L.length=n:=⟨_,rfl⟩
 have HW:=Lib.hid (And.intro hw1 (And.intro hB (And.intro hb1 k1)))
 have HA:=Lib.hid (And.intro hL (And.intro hLm (And.intro hid (And.intro hp (And.intro hs0 hn)))))
 rw [hn]
 clear hw1 hB hb1 k1 hL hLm hid hp hs0 hn
 go_enter Tryz.func3,Tryz.ntmps3
 go_upto_region 1 with fail
 rw [HW.out.1,HW.out.2.1]
 go_upto_region 4 with (go_at_call 11; (with_reducible refine hbeg.mono ?_); rintro e w2 ⟨rfl,hb2⟩; have H2:=Lib.hid (And.intro (below_on HW.out.2.2.1 hb2) (heap_on hb2 HW.out.2.2.2)); clear hbeg hb2)
 have HIS : Hid (∀ w,Below W.heap.size W w→Calls Tryz.prog 12 #[pv] w fun e w'=>∃ p n c,e=.returned (.slice p n c)∧n=(pathP l0).length∧HRow w' w.heap.size 9 1 (.slice p n c) n (cellsS (pathP l0))∧Below w.heap.size w w'):=Lib.hid (fun w hw=>path_any (HA.out.2.2.2.1.on hw))
 have HVL:=Lib.hid (fun w=>val_any k0 n0 s0 w HA.out.2.2.2.2.1)
 refine Par.wp_region_par4 4 (JP W B (pathP l0) (fun idx=>[pv,undef,(Value.agg #[Value.int .i64 (k0),Value.int .i64 (n0),Value.string (s0)]),(Value.agg #[Value.int .i64 (k0),Value.int .i64 (n0),Value.string (cutB 20 s0)])].getD idx undef) (k0,n0,s0)) ?A ?hm ?hB ?hA ?hJ ?hop ?hT
 case hm=>kernel_rfl
 case hB=>kernel_rfl
 case hA =>
  intro vs
  simp only [Par.putA,Par.dstAt,Act.put,List.getElem?_toArray,List.getElem?_cons_zero,List.getElem?_cons_succ,Option.bind_some,List.setIfInBounds_toArray,List.set_cons_zero,List.set_cons_succ]
  rfl
 case hJ =>
  intro vs
  exact ⟨below_on H2.out.1 (below_drew w2),fun _ _ h=>(by cases h),fun h=>(by cases h),heap_on (below_drew w2) H2.out.2⟩
 case hop =>
  simp only [List.take_succ_cons,List.take_zero,Par.GiveAllK,and_true]
  refine ⟨fun l vs w hJ hl hd hcl=>?_,fun l vs w hJ hl hd hcl=>?_,fun l vs w hJ hl hd hcl=>?_,fun l vs w hJ hl hd hcl=>?_⟩
  ·have HJ:=Lib.hid hJ
   clear hJ hd hcl
   simp only [Par.GivesW]
   go_simp
   all_goals exact HJ.out.up 0 (by decide)
  ·have HJ:=Lib.hid hJ
   have d0 : vs 0=pv:=hJ.ev 0 (by decide) (hd 0 (by kernel_rfl))
   have hc:=HIS.out w hJ.bel
   clear hJ hd hcl
   simp only [Par.GivesW,d0]
   go_simp
   refine hc.mono ?_
   rintro e y2 ⟨p,n,c,rfl,_,hr,hb⟩
   exact ⟨_,rfl,HJ.out.path hb hr⟩
  ·have HJ:=Lib.hid hJ
   have q0:=nd_cell hJ.box 0
   have q1:=nd_cell hJ.box 1
   have q2:=nd_cell hJ.box 2
   clear hJ hd hcl
   simp only [Par.GivesW]
   go_simp
   all_goals exact HJ.out.up 2 (by decide)
  ·have HJ:=Lib.hid hJ
   have d2 : vs 2=(Value.agg #[Value.int .i64 (k0),Value.int .i64 (n0),Value.string (s0)]):=hJ.ev 2 (by decide) (hd 2 (by kernel_rfl))
   have hc:=HVL.out w
   clear hJ hd hcl
   simp only [Par.GivesW,d2]
   go_simp
   refine hc.mono ?_
   rintro e y2 ⟨rfl,hb⟩
   exact ⟨_,rfl,(HJ.out.on hb).up 3 (by decide)⟩
 case hT =>
  intro l vs w3 hl hJ
  simp only [List.drop_succ_cons,List.drop_zero]
  obtain ⟨pp,np,cp,e1,hrow⟩:=hJ.v1 (hl 1 (by decide))
  have e3 : vs 3=(Value.agg #[Value.int .i64 (k0),Value.int .i64 (n0),Value.string (cutB 20 s0)]):=hJ.ev 3 (by decide) (hl 3 (by decide))
  simp only [e1,e3]
  have hbox:=hJ.box
  have q0:=nd_cell hbox 0
  have q1:=nd_cell hbox 1
  have q2:=nd_cell hbox 2
  have qf:=fun i=>frozen_of_row w3 B i _ _ hbox
  have ql:=lt_of_heap hbox
  have hg:=grown_set3 w3 B (.int .i64 k0) (.int .i64 n0) (.string (cutB 20 s0))
  have h3:=set3 hbox (.int .i64 k0) (.int .i64 n0) (.string (cutB 20 s0))
  have hbel:=below_set3 hJ.bel (Nat.le_of_eq HW.out.2.1) (.int .i64 k0) (.int .i64 n0) (.string (cutB 20 s0))
  have hr3:=hrow.of (fun q hq=>hg.block q (HRow.lt hrow q hq).2 (fun e2=>by have:=(HRow.lt hrow q hq).1; cases e2; omega))
  have H3:=Lib.hid (And.intro hbel (And.intro hr3 h3))
  clear hJ hl e1 e3 hrow hbox hg h3 hbel hr3
  generalize vs 0=v0
  generalize vs 2=v2
  go_upto_region 5 with fail
  generalize hw4 : ((World.setCell _ _ _).setCell _ _).setCell _ _=w4
  rw [hw4] at H3
  clear hw4 q0 q1 q2 qf ql
  obtain ⟨u,hu⟩ : ∃ u : T3,(k0,n0,cutB 20 s0)=u:=⟨_,rfl⟩
  have H4 : Hid (Below W.heap.size W w4∧Wd w4 (.slice pp np cp) (pathP l0)∧w4.heap[B]?=some (.cells #[.int .i64 u.1,.int .i64 u.2.1,.string u.2.2] 26)):=Lib.hid (by
   rw [← hu]
   exact ⟨H3.out.1,H3.out.2.1.wdQ,H3.out.2.2⟩)
  have hstar:=star_pd w4
  clear hu H3
  go_upto_region 6 with (go_at_call 14; (with_reducible refine hstar.mono ?_); rintro e w5 ⟨d,b,ps,rfl,hP5⟩; have HP5:=Lib.hid hP5; clear hstar hP5)
  have hb5:=HP5.out.bel (Below.refl _ _) (fun q hq=>hq)
  have hops:=ops_any (W:=w5) (c:=c0) 40 (by decide) (opsR_later HA.out.1 (below_on H4.out.1 hb5)) HA.out.2.1
  rw [HA.out.2.2.2.2.2] at hops
  have hops : Calls Tryz.prog 16 #[.slice p0 n c0,.int .i64 40] w5 _:=hops
  have HB5:=Lib.hid hb5
  clear hb5
  go_upto_region 7 with (first
   | (go_at_call 16; (with_reducible refine hops.mono ?_); rintro e w6 ⟨tv,rfl,ho,hb6⟩; have hfill:=fill_star HP5.out hb6 ho HA.out.2.2.1 (by decide); clear hops ho hb6)
   | (go_at_call 15; (with_reducible refine hfill.mono ?_); rintro e w7 ⟨rfl,hP7⟩; have HP7:=Lib.hid hP7; clear hfill hP7))
  obtain ⟨L',hL'⟩ : ∃ x,fillP (pre 4) Lz ((L.take 40).map cutOp)=x:=⟨_,rfl⟩
  have hsm : ∀ x∈L',SmP 60 x:=by rw [← hL']; exact fill_small (by decide)
  rw [hL'] at HP7
  have hR7:=HP7.out.rd2
  have hB7:=HP7.out.bel (Below.refl _ _) (fun q hq=>hq)
  have hcp:=hR7.copyD hsm (by decide)
  have H7:=Lib.hid (And.intro hR7 (And.intro hB7 (And.intro hsm (HP7.out.len.2.1))))
  clear hL' hsm hR7 hB7
  go_upto_region 8 with (go_at_call 17; (with_reducible refine hcp.mono ?_); rintro e w8 ⟨d2,rfl,hR8,_,hb8⟩; have H8:=Lib.hid (And.intro (H7.out.1.later hb8) (And.intro hR8 (below_on H4.out.1 (below_on H7.out.2.1 hb8)))); have H8b:=Lib.hid (below_on H7.out.2.1 hb8); clear hcp hR8 hb8)
  have HWD : Hid (∀ w,Below w8.heap.size w8 w→Wd w (.slice pp np cp) (pathP l0)∧w.heap[B]?=some (.cells #[.int .i64 u.1,.int .i64 u.2.1,.string u.2.2] 26)):=Lib.hid (fun w hw=>⟨H4.out.2.1.later (below_on H8b.out hw),heap_on (below_on H8b.out hw) H4.out.2.2⟩)
  obtain ⟨tt0,i0,Ob0,hDN,hL0⟩:=H8.out.1.nn
  have hN4 : tt0.length=4:=by rw [hDN.n]; rfl
  have HDN:=Lib.hid (And.intro hDN hL0)
  have hbx0:=hDN.box
  obtain ⟨psv,csv,esv,_,_⟩:=hDN.form.isslice
  have esv : i0.sv=.slice psv 4 csv:=esv
  rw [esv] at hbx0
  have HBX : Hid (∀ w,Below w8.heap.size w8 w→w.cell? ⟨b,0,none⟩=some (.slice psv 4 csv)∧b<w.heap.size):=Lib.hid (fun w hw=>⟨nd_cell (heap_on hw hbx0) 0,lt_of_heap (heap_on hw hbx0)⟩)
  clear hDN hL0 hbx0 esv
  go_wp2_with fail
  go_loopg [13] 5 (fun gh jv w=>∃ (t : Nat),jv=.int .i64 (t : Int)∧t≤4∧5≤t+gh∧Below w8.heap.size w8 w)
  case atStart=>exact ⟨0,rfl,Nat.zero_le _,by omega,Below.refl _ _⟩
  case round =>
   obtain ⟨t,rfl,ht,hg,hB⟩:=hrel
   obtain ⟨x0,xl⟩:=HBX.out wr hB
   by_cases hlt : t<4
   ·have hti : (t : Int)<4:=by omega
    have htp : t<(pre 4).length:=hlt
    have htt : t<tt0.length:=by omega
    obtain ⟨⟨gs,cs,go,co,gn,cn,pc,kc,pd,kd⟩,esv,eov,env,_,_,_,hR⟩:=HDN.out.1.reads htp (List.getElem?_eq_getElem htt)
    have hRw:=fun w (hw : Below w8.heap.size w8 w)=>hR w hw
    have epsv : psv=some ⟨gs,0,none⟩∧csv=cs:=by
     have h1:=(HBX.out wr hB).1
     have h2:=(hRw wr hB).b0
     have h3 : some (Value.slice psv 4 csv)=some (Value.slice (some ⟨gs,0,none⟩) 4 cs):=h1.symm.trans h2
     cases h3; exact ⟨rfl,rfl⟩
    obtain ⟨rfl,rfl⟩:=epsv
    obtain ⟨nm,hnm⟩ : ∃ x,(pre 4)[t].nm=x:=⟨_,rfl⟩
    obtain ⟨nx,hnx⟩ : ∃ x,tt0[t].nx=x:=⟨_,rfl⟩
    have hnx6 : nx≤60:=by
     have h1 : keyN tt0[t]∈L':=by rw [← HDN.out.2]; exact List.mem_map_of_mem (List.getElem_mem htt)
     have:=(H7.out.2.2.1 _ h1).1
     rw [← hnx]; exact this
    have HNR : Hid (∀ w,Below w8.heap.size w8 w→w.cell? ⟨gs,t*4,none⟩=some (.string nm)∧gs<w.heap.size∧w.cell? ⟨b,2,none⟩=some (.slice (some ⟨gn,0,none⟩) 4 cn)∧w.cell? ⟨gn,t,none⟩=some (.int .i64 (nx : Int))∧b<w.heap.size):=Lib.hid (fun w hw=>by
     have k:=hRw w hw
     rw [← hnm,← hnx]
     exact ⟨k.s0,k.sl,k.b2,k.n0,k.bl⟩)
    obtain ⟨bk,hbk⟩ : ∃ r,byKeyP (pre 4) (rowsL L') nm u=r:=⟨_,rfl⟩
    have HK1 : Hid (∀ w,Below w8.heap.size w8 w→(Calls Tryz.prog 18 #[(Value.pointer (some ⟨d,0,none⟩)),.string nm,(Value.agg #[Value.int .i64 (u.1),Value.int .i64 (u.2.1),Value.string (u.2.2)])] w fun e w'=>e=.returned (.tuple #[.int .i64 (bk.getD 0),.bool bk.isSome])∧Below w.heap.size w w')∧(Calls Tryz.prog 19 #[(Value.pointer (some ⟨b,0,none⟩)),.string nm,(Value.agg #[Value.int .i64 (u.1),Value.int .i64 (u.2.1),Value.string (u.2.2)])] w fun e w'=>e=.returned (.tuple #[.int .i64 (bk.getD 0),.bool bk.isSome])∧Below w.heap.size w w')):=Lib.hid (fun w hw=>by
     have h1:=(H8.out.1.later hw).bykeyD nm u
     have h2:=(H8.out.1.later hw).bykeyN H7.out.2.2.1 (by decide) nm u
     rw [hbk] at h1 h2
     exact ⟨h1,h2⟩)
    obtain ⟨y0,yl,_,_,_⟩:=HNR.out wr hB
    have HB:=Lib.hid hB
    clear hB hR hRw hnm hnx hbk esv eov env
    have hc1:=(HK1.out wr HB.out).1
    obtain ⟨v0',v1',v2',vl'⟩ : wr.cell? ⟨B,0,none⟩=some (.int .i64 u.1)∧wr.cell? ⟨B,1,none⟩=some (.int .i64 u.2.1)∧wr.cell? ⟨B,2,none⟩=some (.string u.2.2)∧B<wr.heap.size:=⟨nd_cell (HWD.out wr HB.out).2 0,nd_cell (HWD.out wr HB.out).2 1,nd_cell (HWD.out wr HB.out).2 2,lt_of_heap (HWD.out wr HB.out).2⟩
    go_upto_region 13 with (go_at_call 18; (with_reducible refine hc1.mono ?_); rintro e w9 ⟨rfl,hb9⟩; have H9:=Lib.hid (below_on HB.out hb9); clear hc1 hb9)
    clear v0' v1' v2' vl' x0 xl y0 yl
    have hc2:=(HK1.out w9 H9.out).2
    obtain ⟨v0',v1',v2',vl'⟩ : w9.cell? ⟨B,0,none⟩=some (.int .i64 u.1)∧w9.cell? ⟨B,1,none⟩=some (.int .i64 u.2.1)∧w9.cell? ⟨B,2,none⟩=some (.string u.2.2)∧B<w9.heap.size:=⟨nd_cell (HWD.out w9 H9.out).2 0,nd_cell (HWD.out w9 H9.out).2 1,nd_cell (HWD.out w9 H9.out).2 2,lt_of_heap (HWD.out w9 H9.out).2⟩
    go_upto_region 14 with (go_at_call 19; (with_reducible refine hc2.mono ?_); rintro e w10 ⟨rfl,hb10⟩; have H10:=Lib.hid (below_on H9.out hb10); clear hc2 hb10)
    clear v0' v1' v2' vl'
    obtain ⟨bi,hbi⟩ : ∃ x : Int,bk.getD 0=x:=⟨_,rfl⟩
    obtain ⟨bb,hbb⟩ : ∃ x : Bool,bk.isSome=x:=⟨_,rfl⟩
    rw [hbi,hbb]
    clear hbi hbb HK1
    have e1 : (bi != bi)=false:=by simp
    have e2 : (bb != bb)=false:=by simp
    go_wp2_with fail
    have hnx7 : (nx : Int)≤60:=by omega
    have hcc2:=fun w (hw : Below w8.heap.size w8 w)=>(HWD.out w hw).1
    have HVAL : Hid (∀ w,Below w8.heap.size w8 w→∀ (x : Int) (r : T3×Bool),F64 x→valueP (pre 4) (rowsL L') nm x (pathP l0)=r→(Calls Tryz.prog 20 #[(Value.pointer (some ⟨d,0,none⟩)),.string nm,.int .i64 x,.slice pp np cp] w fun e w'=>e=.returned (.tuple #[(Value.agg #[Value.int .i64 (r.1.1),Value.int .i64 (r.1.2.1),Value.string (r.1.2.2)]),.bool r.2])∧Below w.heap.size w w')∧(Calls Tryz.prog 21 #[(Value.pointer (some ⟨b,0,none⟩)),.string nm,.int .i64 x,.slice pp np cp] w fun e w'=>e=.returned (.tuple #[(Value.agg #[Value.int .i64 (r.1.1),Value.int .i64 (r.1.2.1),Value.string (r.1.2.2)]),.bool r.2])∧Below w.heap.size w w')∧(Calls Tryz.prog 20 #[(Value.pointer (some ⟨d2,0,none⟩)),.string nm,.int .i64 x,.slice pp np cp] w fun e w'=>e=.returned (.tuple #[(Value.agg #[Value.int .i64 (r.1.1),Value.int .i64 (r.1.2.1),Value.string (r.1.2.2)]),.bool r.2])∧Below w.heap.size w w')):=Lib.hid (fun w hw x r hx hr=>by
     have h1:=(H8.out.1.later hw).valueD nm hx (hcc2 w hw)
     have h2:=(H8.out.1.later hw).valueN H7.out.2.2.1 (by decide) nm x (hcc2 w hw)
     have h3:=(H8.out.2.1.later hw).valueD nm hx (hcc2 w hw)
     rw [hr] at h1 h2 h3
     exact ⟨h1,h2,h3⟩)
    clear hcc2
    go_loopg [19] (nx+3) (fun gh jv w=>∃ (x : Int),jv=.int .i64 x∧-1≤x∧x≤(nx : Int)+1∧(nx : Int)+2≤x+(gh : Int)∧Below w8.heap.size w8 w)
    case atStart=>exact ⟨-1,rfl,by omega,by omega,by omega,H10.out⟩
    case round =>
     obtain ⟨x,rfl,hx1,hx2,hg2,hB2⟩:=hrel
     obtain ⟨_,_,y2,y3,yl⟩:=HNR.out wr hB2
     by_cases hle : x≤(nx : Int)
     ·obtain ⟨r,hr⟩ : ∃ r,valueP (pre 4) (rowsL L') nm x (pathP l0)=r:=⟨_,rfl⟩
      obtain ⟨⟨a0,a1,a2⟩,ok⟩:=r
      have hF : F64 x:=⟨by omega,by omega⟩
      have HVX:=Lib.hid (fun w (hw : Below w8.heap.size w8 w)=>HVAL.out w hw x _ hF hr)
      have HB2:=Lib.hid hB2
      have hv1:=(HVX.out wr hB2).1
      have HEQ : Hid (∀ w,Calls Tryz.prog 22 #[(Value.agg #[Value.int .i64 (a0),Value.int .i64 (a1),Value.string (a2)]),(Value.agg #[Value.int .i64 (a0),Value.int .i64 (a1),Value.string (a2)])] w fun e w'=>e=.returned (.bool true)∧Below w.heap.size w w'):=Lib.hid (fun w=>by
       have h:=refEq_any a0 a1 a2 a0 a1 a2 w
       have e : eqV a0 a1 a2 a0 a1 a2=true:=by
        have:=eqV_dec (a0,a1,a2) a0 a1 a2
        rw [this]; exact decide_eq_true rfl
       rw [e] at h
       exact h)
      clear hB2 hr hF
      have e3 : (ok != ok)=false:=by simp
      go_upto_region 20 with (go_at_call 20; (with_reducible refine hv1.mono ?_); rintro e w11 ⟨rfl,hb11⟩; have H11:=Lib.hid (And.intro (below_on HB2.out (below_on hb11 (below_alloc w11 (.cells #[.int .i64 a0,.int .i64 a1,.string a2] 26)))) (heap_alloc_new w11 (.cells #[.int .i64 a0,.int .i64 a1,.string a2] 26))); clear hv1 hb11)
      obtain ⟨w12,hw12⟩ : ∃ w,w11.alloc (.cells #[.int .i64 a0,.int .i64 a1,.string a2] 26)=w:=⟨_,rfl⟩
      obtain ⟨g1,hg1⟩ : ∃ c,w11.heap.size=c:=⟨_,rfl⟩
      rw [hw12,hg1] at H11
      rw [hw12,hg1]
      clear hw12 hg1 y2 y3 yl
      have hv2:=(HVX.out w12 H11.out.1).2.1
      go_upto_region 21 with (go_at_call 21; (with_reducible refine hv2.mono ?_); rintro e w13 ⟨rfl,hb13⟩; have H13:=Lib.hid (And.intro (below_on hb13 (below_alloc w13 (.cells #[.int .i64 a0,.int .i64 a1,.string a2] 26))) (heap_alloc_new w13 (.cells #[.int .i64 a0,.int .i64 a1,.string a2] 26))); clear hv2 hb13)
      obtain ⟨w14,hw14⟩ : ∃ w,w13.alloc (.cells #[.int .i64 a0,.int .i64 a1,.string a2] 26)=w:=⟨_,rfl⟩
      obtain ⟨g2,hg2'⟩ : ∃ c,w13.heap.size=c:=⟨_,rfl⟩
      rw [hw14,hg2'] at H13
      rw [hw14,hg2']
      clear hw14 hg2'
      have H14:=Lib.hid (And.intro (below_on H11.out.1 H13.out.1) (And.intro (heap_on H13.out.1 H11.out.2) H13.out.2))
      have hv3:=(HVX.out w14 H14.out.1).2.2
      go_upto_region 22 with (go_at_call 20; (with_reducible refine hv3.mono ?_); rintro e w15 ⟨rfl,hb15⟩; have H15:=Lib.hid (And.intro (below_on hb15 (below_alloc w15 (.cells #[.int .i64 a0,.int .i64 a1,.string a2] 26))) (heap_alloc_new w15 (.cells #[.int .i64 a0,.int .i64 a1,.string a2] 26))); clear hv3 hb15)
      obtain ⟨w16,hw16⟩ : ∃ w,w15.alloc (.cells #[.int .i64 a0,.int .i64 a1,.string a2] 26)=w:=⟨_,rfl⟩
      obtain ⟨g3,hg3⟩ : ∃ c,w15.heap.size=c:=⟨_,rfl⟩
      rw [hw16,hg3] at H15
      rw [hw16,hg3]
      clear hw16 hg3
      have H16 : Hid (∀ w,Below w16.heap.size w16 w→Below w8.heap.size w8 w∧w.heap[g1]?=some (.cells #[.int .i64 a0,.int .i64 a1,.string a2] 26)∧w.heap[g2]?=some (.cells #[.int .i64 a0,.int .i64 a1,.string a2] 26)∧w.heap[g3]?=some (.cells #[.int .i64 a0,.int .i64 a1,.string a2] 26)):=Lib.hid (fun w hw=>by
       have hh:=below_on H15.out.1 hw
       exact ⟨below_on H14.out.1 hh,heap_on hh H14.out.2.1,heap_on hh H14.out.2.2,heap_on hw H15.out.2⟩)
      obtain ⟨_,m1,m2,m3⟩:=H16.out w16 (Below.refl _ _)
      have f0:=nd_cell m1 0
      have f1:=nd_cell m1 1
      have f2:=nd_cell m1 2
      have g0':=nd_cell m2 0
      have g1':=nd_cell m2 1
      have g2':=nd_cell m2 2
      have fl:=lt_of_heap m1
      have gl:=lt_of_heap m2
      have hq1:=HEQ.out w16
      clear m1 m2 m3
      go_wp2_with (first
       | (go_at_call 22; (with_reducible refine hq1.mono ?_); rintro e w17 ⟨rfl,hb17⟩; have H17:=Lib.hid hb17; obtain ⟨_,m1,_,m3⟩:=H16.out w17 hb17; have p0':=nd_cell m1 0; have p1':=nd_cell m1 1; have p2':=nd_cell m1 2; have r0':=nd_cell m3 0; have r1':=nd_cell m3 1; have r2':=nd_cell m3 2; have pl':=lt_of_heap m1; have rl':=lt_of_heap m3; have hq2:=HEQ.out w17; clear hq1 hb17 m1 m3 f0 f1 f2 g0' g1' g2' fl gl)
       | (go_at_call 22; (with_reducible refine hq2.mono ?_); rintro e w18 ⟨rfl,hb18⟩; have H18:=Lib.hid (H16.out w18 (below_on H17.out hb18)).1; clear hq2 hb18 p0' p1' p2' r0' r1' r2' pl' rl'))
      go_roundg ((nx : Int)+1 - x).toNat
      case measure=>omega
      case rel=>exact ⟨x+1,by go_num,by omega,by omega,by omega,H18.out⟩
     ·have HB2:=Lib.hid hB2
      clear hB2
      go_wp2_with fail
      go_roundg (4 - t)
      case measure=>omega
      case rel=>exact ⟨t+1,by go_num,by omega,by omega,HB2.out⟩
   ·obtain rfl : t=4:=by omega
    have HB:=Lib.hid hB
    clear hB
    go_wp2_with fail
    go_ret
    exact ⟨rfl,below_on H8.out.2.2 HB.out⟩
end Go.Proofs.YtjepplacnaoomaaGreat
