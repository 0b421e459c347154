import Derived.Test.YtjepplacnaoomaaGreatZd29
namespace Go.Proofs.YtjepplacnaoomaaGreat
open Go Go.RowKit Go.Proofs Co Co.S
theorem OwnT.mono {w : World} {b b' : Nat} {cv dv : Value} {t : T} {ps : List Value} (h : OwnT w b cv dv t ps) (hb : b'≤b) : OwnT w b' cv dv t ps:=⟨HRow.mono h.c hb,h.n,HRow.mono h.d hb,fun j x y=>HRow.mono (h.l j x y) hb⟩
def IsT (t : T) (W : World) (e : Ending) (w' : World) : Prop:=∃ p1 c1 p2 c2 ps,e=.returned (.agg #[.string t.nm,.slice p1 t.cols.length c1,.string t.key,.slice p2 t.deps.length c2])∧OwnT w' W.heap.size (.slice p1 t.cols.length c1) (.slice p2 t.deps.length c2) t ps∧Below W.heap.size W w'
section
variable {W W' : World} {tb next : Nat} {t : T} {i : In} {A : List R1} {lab : Nat→Nat}
set_option maxRecDepth 100000 in
set_option maxHeartbeats 1000000 in
theorem tform_any (h : TbM W tb t next i lab) (hf : Few t) : Calls Tryz.prog 111 #[(Value.pointer (some ⟨tb,0,none⟩))] W (IsT t W):=by
 have hb:=below_alloc W (boxT e0 (.slice none 0 0) e0 (.slice none 0 0))
 have hk:=heap_alloc_new W (boxT e0 (.slice none 0 0) e0 (.slice none 0 0))
 have h1:=h.later hb
 obtain ⟨pc,kc,hfc,hc1,hc2⟩:=h1.form.rd.1.slice
 obtain ⟨pd,kd,hfd,hd1,hd2⟩:=h1.form.rd.2.slice
 have hcp:=copied_any h1.form.rd hf
 obtain ⟨c0,c1,c2,c3,_⟩:=h1.cells
 have zl:=h1.tlt
 rw [hfc] at c1 hcp
 rw [hfd] at c3 hcp
 obtain ⟨w1,hw1⟩ : ∃ w1,W.alloc (boxT e0 (.slice none 0 0) e0 (.slice none 0 0))=w1:=⟨_,rfl⟩
 obtain ⟨B,hBB⟩ : ∃ B,W.heap.size=B:=⟨_,rfl⟩
 rw [hw1] at hb hk c0 c1 c2 c3 zl hcp
 rw [hBB] at hk
 have hsz : w1.heap.size=B+1:=by rw [← hw1,World.size_alloc,hBB]
 rw [hsz] at hcp
 have HB:=Lib.hid (And.intro hb (And.intro hk hsz))
 have HW:=Lib.hid (And.intro hw1 hBB)
 clear h h1 hb hk hw1 hBB hfc hfd hc1 hc2 hd1 hd2 hsz hf
 go_enter Tryz.func111,Tryz.ntmps111
 go_upto_region 1 with fail
 rw [HW.out.1,HW.out.2]
 go_wp2_with (go_at_call 104; (with_reducible refine hcp.mono ?_); rintro e w2 ⟨q1,d1,q2,d2,ps,rfl,hO,hb2⟩; have hres:=heap_on (HB.out.2.2 ▸ hb2) HB.out.2.1; have z0:=nd_cell hres 0; have z1:=nd_cell hres 1; have z2:=nd_cell hres 2; have z3:=nd_cell hres 3; have zf:=fun i=>frozen_of_row w2 B i _ _ hres; have zl2:=lt_of_heap hres; have H2:=Lib.hid (And.intro hO (And.intro hb2 hres)); clear hO hb2 hres hcp)
 have hS4:=set4 H2.out.2.2 (.string t.nm) (.slice q1 t.cols.length d1) (.string t.key) (.slice q2 t.deps.length d2)
 have hBx:=below_set4 (below_on HB.out.1 (HB.out.2.2 ▸ H2.out.2.1)) (Nat.le_of_eq HW.out.2) (.string t.nm) (.slice q1 t.cols.length d1) (.string t.key) (.slice q2 t.deps.length d2)
 have hO:=H2.out.1.of (fun q hq=>set4_other w2 B q (by omega) (.string t.nm) (.slice q1 t.cols.length d1) (.string t.key) (.slice q2 t.deps.length d2))
 generalize (((w2.setCell _ _).setCell _ _).setCell _ _).setCell _ _=wz at hS4 hBx hO ⊢
 have y0:=nd_cell hS4 0
 have y1:=nd_cell hS4 1
 have y2:=nd_cell hS4 2
 have y3:=nd_cell hS4 3
 refine bodyPost_ret (v:=.agg #[.string t.nm,(.slice q1 t.cols.length d1),.string t.key,(.slice q2 t.deps.length d2)]) (by simp [results,Tryz.results111,go_sem,y0,y1,y2,y3]) rfl ?_
 exact ⟨_,_,_,_,ps,rfl,hO.mono (by have:=HW.out.2; omega),hBx⟩
theorem tb_form (h : Tb W tb t next A lab) (hf : Few t) : Calls Tryz.prog 111 #[(Value.pointer (some ⟨tb,0,none⟩))] W (IsT t W):=by
 obtain ⟨i,h1,h2⟩:=h
 exact tform_any h1 hf
end
theorem empty_any (k : Int) (hk : k=1∨k=2) (W : World) : Calls Tryz.prog 105 #[.int .i64 k] W fun e w'=>e=.returned (Value.pointer (some ⟨W.heap.size,0,none⟩))∧Col W.heap.size k [] (.slice none 0 0) w'∧Below W.heap.size W w':=by
 have hn:=col_new k hk W
 clear hk
 go_enter Tryz.func105,Tryz.ntmps105
 go_wp2_with (go_at_call 139; (with_reducible refine hn.mono ?_); rintro e w2 ⟨rfl,hc,hb⟩; have H2:=Lib.hid (And.intro hc hb); clear hc hb hn)
 go_ret
 exact ⟨rfl,H2.out⟩
theorem info81 : (Tryz.prog.info? 142).map (fun i=>(i.zero,i.size,i.bytes))=some (some (.pointer none),1,8):=by kernel_rfl
structure NewI (W : World) (t : T) (T0 : Nat) (fc fd : Value) (ps : List Value) (j : Nat) (cv : Value) (cb : Nat→Nat) (w : World) : Prop where
 box : w.heap[T0]?=some (.cells #[.string t.nm,fc,.string t.key,fd,cv,.map none,.slice none 0 0,.slice none 0 0,.slice none 0 0,(Value.int .i64 (0))] 133)
 form : OwnT w 0 fc fd t ps
 row : HRow w (T0+1) 142 1 cv j (ptrs cb j)
 col : ∀ k (_ : k<j) (h : k<t.cols.length),Col (cb k) t.cols[k].kd [] (.slice none 0 0) w
 gt : ∀ k,k<j→T0<cb k
 inj : ∀ k l,k<j→l<j→cb k=cb l→k=l
 low : W.heap.size≤T0
 below : Below W.heap.size W w
section
variable {W w w' : World} {t : T} {T0 j : Nat} {fc fd cv : Value} {ps : List Value} {cb : Nat→Nat}
theorem NewI.later (h : NewI W t T0 fc fd ps j cv cb w) (hb : Below w.heap.size w w') : NewI W t T0 fc fd ps j cv cb w' :=
 ⟨heap_on hb h.box,h.form.later hb,h.row.later hb,fun k h1 h2=>(h.col k h1 h2).later hb,h.gt,h.inj,h.low,below_on h.below hb⟩
theorem ptrs_succ (cb : Nat→Nat) (j c : Nat) : ptrs cb j ++ [(Value.pointer (some ⟨c,0,none⟩))]=ptrs (updF cb j c) (j+1):=by
 unfold ptrs
 rw [List.range_succ,List.map_append,List.map_singleton,updF_same]
 congr 1
 apply List.map_congr_left
 intro k hk
 rw [updF_other _ _ (by have:=List.mem_range.1 hk; omega)]
theorem NewI.add (h : NewI W t T0 fc fd ps j cv cb w) {c : Nat} (hj : j<t.cols.length) (hjm : j≤1000) (hc : Col c t.cols[j].kd [] (.slice none 0 0) w) (hgt : T0<c) (hnew : ∀ k,k<j→cb k≠c) :
  ∃ g cap w3,(Builtin.append_ #[130,130] 130 #[cv,.slice (some ⟨w.heap.size,0,none⟩) 1 1]).run Tryz.prog (w.alloc (.cells #[(Value.pointer (some ⟨c,0,none⟩))] 142))=.ok (.slice (some ⟨g,0,none⟩) (j+1) cap) w3∧T0<w3.heap.size∧w3.frozen? ⟨T0,4,none⟩=false∧(∃ u,w3.cell? ⟨T0,4,none⟩=some u) ∧
   NewI W t T0 fc fd ps (j+1) (.slice (some ⟨g,0,none⟩) (j+1) cap) (updF cb j c) (w3.setCell ⟨T0,4,none⟩ (.slice (some ⟨g,0,none⟩) (j+1) cap)):=by
 have hT:=lt_of_heap h.box
 obtain ⟨g,cap,w3,hrun,r3,g3,own⟩:=app_one (ty:=130) Tryz.underlying130 info81 rfl (by decide) (by decide) w (T0+1) h.row (by omega) (by omega) #[(Value.pointer (some ⟨c,0,none⟩))] rfl (by simp [Value.oneCell'])
 have hne : ∀ b,cv.ownBlock=some b→b≠T0∧∃ cur,w.heap[b]?=some (.cells cur 142):=fun b hb=>by
  obtain ⟨h1,cur,h2⟩:=h.row.block b hb
  exact ⟨by omega,cur,h2⟩
 have hbox3 : w3.heap[T0]?=_:=(g3.block T0 hT (fun e=>(hne T0 e.symm).1 rfl)).trans h.box
 have hty : Ty w3 T0:=⟨_,133,hbox3,rfl⟩
 have hkeep : ∀ (b : Nat) (cur : Array Value) (e : TypeId) (m : Nat×Nat),w.heap[b]?=some (.cells cur e m)→e≠142→w3.heap[b]?=w.heap[b]?:=fun b cur e m hb he=>g3.block b (lt_of_heap hb) (fun h1=>by
  obtain ⟨_,cur',h2⟩:=hne b h1.symm
  rw [hb] at h2
  cases h2
  exact he rfl)
 have hrow : ∀ {base : Nat} {e : TypeId} {size : Nat} {v : Value} {n : Nat} {xs : List Value},HRow w base e size v n xs→e≠142→HRow w3 base e size v n xs:=fun hr he=>hr.of (fun k hk=>by
  obtain ⟨_,cur,hb⟩:=hr.block k hk
  exact hkeep k _ _ _ hb he)
 have hf3 : OwnT w3 0 fc fd t ps:=⟨hrow h.form.c (by decide),h.form.n,hrow h.form.d (by decide),fun q x y=>hrow (h.form.l q x y) (by decide)⟩
 have hcol3 : ∀ {cb0 : Nat} {kind : Int} {l : List T3} {v : Value},Col cb0 kind l v w→Col cb0 kind l v w3:=fun {cb0 kind l v} hc=>by
  obtain ⟨hty1,hty2⟩:=hc.ty
  obtain ⟨⟨L,W0,hm,hcn⟩,hr,ho⟩:=hc
  have hb0 : ∀ b,Ty w b→w3.heap[b]?=w.heap[b]?:=fun b ⟨cs,ty,h1,h2⟩=>hkeep b cs ty _ h1 (fun e=>by rw [e] at h2; cases h2)
  have e:=hb0 cb0 hty1
  obtain ⟨cv0,m,q⟩:=hm.dm.mp
  obtain ⟨tt,p,r1,r2,r3'⟩:=m.rt
  exact ⟨⟨L,W0,⟨(World.cell?_of_block (w:=w) e).trans hm.c0,(World.cell?_of_block (w:=w) e).trans hm.c1,⟨⟨cv0,⟨m.dm,(World.cell?_of_block (w:=w) e).trans m.c0,⟨tt,p,(World.cell?_of_block (w:=w) e).trans r1,Tr.of_nodes (fun b cs hb=>hkeep b cs 203 _ hb (by decide)) r2,r3'⟩,fun j=>(World.frozen?_of_block (w:=w) e).trans (m.fz j),m.srt,
   m.bel.trans ⟨g3.os,g3.tape,g3.output,g3.size,fun k hk=>absurd hk (Nat.not_lt_zero _)⟩,m.ty.of e⟩,q⟩,hm.dm.pos,hm.dm.len⟩,(World.cell?_of_block (w:=w) e).trans hm.c4⟩,hcn⟩,hr.of (fun k hk2=>hb0 k (hty2 k hk2)),ho⟩
 have htn : Tn (fun b=>b=T0) w3 (w3.setCell ⟨T0,4,none⟩ (.slice (some ⟨g,0,none⟩) (j+1) cap)):=Tn.of_chg ((Chg.refl (fun b=>b=T0) w3).setCell (p:=⟨T0,4,none⟩) (fun _=>rfl) _) (fun b _ hb=>.inl (by rw [hb]; exact hty))
 have hbel3 : Below W.heap.size W w3:=h.below.trans ⟨g3.os,g3.tape,g3.output,g3.size,fun k hk=>g3.block k (Nat.lt_of_lt_of_le hk h.below.size) (fun e=>by have:=(h.row.lt k e.symm).1; have:=h.low; omega)⟩
 refine ⟨g,cap,w3,hrun,lt_of_heap hbox3,frozen_of_row w3 T0 4 _ _ hbox3,⟨_,nd_cell hbox3 4⟩,heap_setCell_same _ T0 4 _ _ _ hbox3,hf3.tn htn,?_,fun k h1 h2=>?_,fun k hk=>?_,fun k l hk hl e=>?_,h.low,hbel3.setCell (p:=⟨T0,4,none⟩) h.low _⟩
 ·rw [← ptrs_succ]
  exact r3.tn htn rfl
 ·by_cases e : k=j
  ·subst e
   rw [updF_same]
   exact (hcol3 hc).tn htn (by omega) (fun b hb=>by cases hb)
  ·rw [updF_other _ _ e]
   exact (hcol3 (h.col k (by omega) h2)).tn htn (by have:=h.gt k (by omega); omega) (fun b hb=>by cases hb)
 ·by_cases e : k=j
  ·subst e; rw [updF_same]; exact hgt
  ·rw [updF_other _ _ e]; exact h.gt k (by omega)
 ·by_cases ek : k=j <;> by_cases el : l=j
  ·rw [ek,el]
  ·rw [ek,updF_same,updF_other _ _ el] at e
   exact absurd e.symm (hnew l (by omega))
  ·rw [el,updF_same,updF_other _ _ ek] at e
   exact absurd e (hnew k (by omega))
  ·rw [updF_other _ _ ek,updF_other _ _ el] at e
   exact h.inj k l (by omega) (by omega) e
theorem NewI.tb (h : NewI W t T0 fc fd ps t.cols.length cv cb w) : ∃ lab,Tb w T0 t 0 [] lab∧∀ b,lab b≠0→W.heap.size≤b:=by
 classical
 obtain ⟨lab,hlab⟩ : ∃ lab : Nat→Nat,lab=fun b=>if b=T0 then 1 else if hx : ∃ k,k<t.cols.length∧cb k=b then 6+2*Classical.choose hx else 0:=⟨_,rfl⟩
 have hl1 : lab T0=1:=by rw [hlab]; simp
 have hl6 : ∀ k,k<t.cols.length→lab (cb k)=6+2*k:=fun k hk=>by
  have hne : cb k≠T0:=by have:=h.gt k hk; omega
  have hx : ∃ l,l<t.cols.length∧cb l=cb k:=⟨k,hk,rfl⟩
  rw [hlab]
  simp only
  rw [if_neg hne,dif_pos hx]
  have:=Classical.choose_spec hx
  rw [h.inj _ k this.1 hk this.2]
 have hsup : ∀ b,lab b≠0→b=T0∨∃ k,k<t.cols.length∧cb k=b:=fun b hb=>by
  apply Classical.byContradiction
  intro hno
  apply hb
  rw [hlab]
  simp only
  rw [if_neg (fun e=>hno (.inl e)),dif_neg (fun e=>hno (.inr e))]
 refine ⟨lab,⟨⟨fc,fd,cv,.map none,.slice none 0 0,.slice none 0 0,.slice none 0 0,ps,cb,fun _=>.slice none 0 0,fun _=>none,0,0,[],[],fun _=>false,fun _=>[]⟩,⟨⟨h.form,HRow.mono h.row (Nat.zero_le _),fun k hk=>h.col k hk hk,.inl ⟨rfl,rfl,fun _=>rfl⟩,Nat.le_refl _,HRow.nil,⟨[],Mv.nil _,Nrm.nil,fun x=>⟨fun e=>absurd e (mem_nil x),fun e=>by cases e⟩⟩,HRow.nil,hl1,fun b hb=>(by cases hb),fun b hb=>(by cases hb),fun b hb=>(by cases hb),hl6,fun k _ b hb=>(by cases hb),fun b hb=>?_⟩,h.box⟩,?_⟩,fun b hb=>?_⟩
 ·rcases hsup b hb with rfl | ⟨k,hk,rfl⟩
  ·exact lt_of_heap h.box
  ·exact (h.col k hk hk).lt
 ·exact ⟨rfl,fun _ _=>rfl,List.Pairwise.nil,fun a ha=>(by cases ha),fun a ha=>(by cases ha),fun _ _=>rfl,fun _ _ _ hx=>(by cases hx),fun p hp=>(by cases hp),List.nodup_nil,fun p hp=>absurd hp (Nat.not_lt_zero p),fun x=>⟨fun hx=>(by rcases hx with hx | hx <;> cases hx),fun ⟨h1,h2,_⟩=>by omega⟩,Nat.le_refl _,Nat.zero_le _,Nat.zero_le _⟩
 ·rcases hsup b hb with rfl | ⟨k,hk,rfl⟩
  ·exact h.low
  ·have:=h.gt k hk; have:=h.low; omega
def colPV (kd : Int) (base : Nat) : Par.VW:=⟨fun v w=>∃ c,v=(Value.pointer (some ⟨c,0,none⟩))∧base≤c∧Col c kd [] (.slice none 0 0) w,fun _ _ _ ⟨c,h1,h2,h3⟩ hb=>⟨c,h1,h2,h3.later hb⟩⟩
def IsNew (t : T) (W : World) (e : Ending) (w' : World) : Prop:=∃ tb lab,e=.returned (Value.pointer (some ⟨tb,0,none⟩))∧Tb w' tb t 0 [] lab∧(∀ b,lab b≠0→W.heap.size≤b)∧Below W.heap.size W w'
set_option maxRecDepth 100000 in
set_option maxHeartbeats 4000000 in
theorem tnew_any {cv0 dv0 : Value} (h : RdT W cv0 dv0 t) (hf : Few t) (hk : ∀ c∈t.cols,c.kd=1∨c.kd=2) : Calls Tryz.prog 76 #[.agg #[.string t.nm,cv0,.string t.key,dv0]] W (IsNew t W):=by
 obtain ⟨pc,kc,hfc,hc1,hc2⟩:=h.1.slice
 obtain ⟨pd,kd,hfd,hd1,hd2⟩:=h.2.slice
 subst hfc hfd
 have hb:=below_alloc W (boxT t.nm (.slice pc t.cols.length kc) t.key (.slice pd t.deps.length kd))
 have hbx:=heap_alloc_new W (boxT t.nm (.slice pc t.cols.length kc) t.key (.slice pd t.deps.length kd))
 have h1:=h.later hb
 have hcp:=copied_any h1 hf
 obtain ⟨n,hn⟩ : ∃ n,t.cols.length=n:=⟨_,rfl⟩
 obtain ⟨nd,hnd⟩ : ∃ n,t.deps.length=n:=⟨_,rfl⟩
 obtain ⟨w1,hw1⟩ : ∃ w1,W.alloc (boxT t.nm (.slice pc t.cols.length kc) t.key (.slice pd t.deps.length kd))=w1:=⟨_,rfl⟩
 obtain ⟨B,hBB⟩ : ∃ B,W.heap.size=B:=⟨_,rfl⟩
 rw [hw1] at hb hbx hcp h1
 rw [hBB] at hbx
 have hsz : w1.heap.size=B+1:=by rw [← hw1,World.size_alloc,hBB]
 rw [hn] at hc1
 obtain ⟨nm,hnm⟩ : ∃ x,t.nm=x:=⟨_,rfl⟩
 obtain ⟨key,hkey⟩ : ∃ x,t.key=x:=⟨_,rfl⟩
 rw [hn,hnd] at hcp h1 hbx hw1
 rw [hn,hnd]
 rw [hnm,hkey] at hcp hbx hw1
 rw [hnm,hkey]
 have z0:=nd_cell hbx 0
 have z1:=nd_cell hbx 1
 have z2:=nd_cell hbx 2
 have z3:=nd_cell hbx 3
 have zl:=lt_of_heap hbx
 have HB:=Lib.hid (And.intro hb (And.intro hbx (And.intro hsz h1)))
 have HW:=Lib.hid (And.intro hw1 hBB)
 have HN:=Lib.hid (And.intro hn (And.intro hnd (And.intro hnm (And.intro hkey (And.intro hk hf)))))
 unfold maxLen at hc2
 have HR:=Lib.hid h
 clear h h1 hb hbx hw1 hBB hn hnd hnm hkey hsz hf hk hd1 hd2
 go_enter Tryz.func76,Tryz.ntmps76
 go_upto_region 1 with fail
 rw [HW.out.1,HW.out.2]
 go_upto_region 2 with (go_at_call 104; (with_reducible refine hcp.mono ?_); rintro e w2 ⟨q1,d1,q2,d2,ps,rfl,hO,hb2⟩; have H2:=Lib.hid (And.intro hO hb2); clear hO hb2 hcp z0 z1 z2 z3 zl)
 have hb3:=below_alloc w2 (.cells #[.string nm,.slice q1 n d1,.string key,.slice q2 nd d2,.slice none 0 0,.map none,.slice none 0 0,.slice none 0 0,.slice none 0 0,(Value.int .i64 (0))] 133)
 have hx3:=heap_alloc_new w2 (.cells #[.string nm,.slice q1 n d1,.string key,.slice q2 nd d2,.slice none 0 0,.map none,.slice none 0 0,.slice none 0 0,.slice none 0 0,(Value.int .i64 (0))] 133)
 obtain ⟨w3,hw3⟩ : ∃ w3,w2.alloc (.cells #[.string nm,.slice q1 n d1,.string key,.slice q2 nd d2,.slice none 0 0,.map none,.slice none 0 0,.slice none 0 0,.slice none 0 0,(Value.int .i64 (0))] 133)=w3:=⟨_,rfl⟩
 obtain ⟨T0,hT0⟩ : ∃ x,w2.heap.size=x:=⟨_,rfl⟩
 rw [hw3] at hb3 hx3 ⊢
 rw [hT0] at hx3 ⊢
 have hbW2 : Below W.heap.size W w2:=below_on HB.out.1 H2.out.2
 have hN0 : NewI W t T0 (.slice q1 n d1) (.slice q2 nd d2) ps 0 (.slice none 0 0) (fun _=>0) w3 :=
  ⟨by rw [HN.out.2.2.1,HN.out.2.2.2.1]; exact hx3,(H2.out.1.mono (Nat.zero_le _)).later hb3,HRow.nil,fun k hk=>absurd hk (Nat.not_lt_zero k),fun k hk=>absurd hk (Nat.not_lt_zero k),fun k l hk=>absurd hk (Nat.not_lt_zero k),by rw [← hT0]; exact hbW2.size,below_on hbW2 hb3⟩
 have hx1:=heap_on (below_on H2.out.2 hb3) HB.out.2.1
 have z1:=nd_cell hx1 1
 have zl:=lt_of_heap hx1
 have HN0:=Lib.hid hN0
 clear hb3 hx3 hw3 hT0 hbW2 hN0 hx1
 go_wp2_with fail
 go_loopg [13] (n+1) (fun gh jv w=>∃ (j : Nat) (cv : Value) (cb : Nat→Nat),jv=.int .i64 (j : Int)∧j≤n∧n+1≤j+gh∧NewI W t T0 (.slice q1 n d1) (.slice q2 nd d2) ps j cv cb w)
 case atStart=>exact ⟨0,_,_,rfl,Nat.zero_le _,by omega,HN0.out⟩
 case round =>
  obtain ⟨j,cv,cb,rfl,hj,hg,hNj⟩:=hrel
  clear z1 zl
  by_cases hlt : j<n
  ·have hjl : j<t.cols.length:=by rw [HN.out.1]; exact hlt
   have hrd:=(HR.out.later hNj.below).1
   rw [HN.out.1] at hrd
   obtain ⟨bc,oc,rfl,hbc,c0,c1,c2,c3⟩:=RdC.col hrd hjl
   obtain ⟨pv,kv,rfl,_,_⟩:=hNj.row.isslice
   have hkj:=HN.out.2.2.2.2.1 _ (List.getElem_mem hjl)
   have hjm : j≤1000:=by have:=HN.out.2.2.2.2.2.1; omega
   obtain ⟨d,hd⟩ : ∃ d,t.cols[j]=d:=⟨_,rfl⟩
   rw [hd] at c0 c1 c2 c3 hkj
   obtain ⟨x,kd2,mu,tg⟩:=d
   simp only at c0 c1 c2 c3 hkj
   have hb4:=below_alloc wr (.cells #[.string x,.int .i64 kd2,.bool mu,.string tg] 116)
   have hx4:=heap_alloc_new wr (.cells #[.string x,.int .i64 kd2,.bool mu,.string tg] 116)
   have hN4:=hNj.later hb4
   obtain ⟨C0,hC0⟩ : ∃ y,wr.heap.size=y:=⟨_,rfl⟩
   obtain ⟨w4,hw4⟩ : ∃ y,wr.alloc (.cells #[.string x,.int .i64 kd2,.bool mu,.string tg] 116)=y:=⟨_,rfl⟩
   rw [hw4] at hb4 hx4 hN4
   rw [hC0] at hx4
   have HD:=Lib.hid (And.intro hd (And.intro hx4 (And.intro hN4 (And.intro hw4 (And.intro hC0 hb4)))))
   have H5:=Lib.hid hNj
   have hji : (j : Int)<(n : Int):=by omega
   have hT4:=lt_of_heap hN4.box
   have hC4:=lt_of_heap hx4
   clear hrd hbc hd hb4 hx4 hN4 hw4 hC0 hNj
   go_upto_region 5 with fail
   rw [HD.out.2.2.2.1,HD.out.2.2.2.2.1]
   have hem : Calls Tryz.prog 105 #[.int .i64 kd2] w4.drew fun e w'=>∃ c,e=.returned (Value.pointer (some ⟨c,0,none⟩))∧w4.heap.size≤c∧Col c kd2 [] (.slice none 0 0) w'∧Below w4.heap.size w4 w' :=
    (empty_any kd2 hkj w4.drew).mono (fun e w'' ⟨h1,h2,h3⟩=>⟨_,h1,Nat.le_refl _,h2,(below_drew w4).trans h3⟩)
   have ent33:=enters_of Tryz.func105 (by kernel_rfl) rfl
   have k4:=nd_cell HD.out.2.2.1.box 4
   have k1:=nd_cell HD.out.2.1 1
   go_region_law (first
    | (refine step_call ent33 [.int .i64 kd2] (by simp [Act.eval]) ?_; (with_reducible refine Calls.mono hem ?_); rintro e y2 ⟨c7,rfl,hge,hcol,hb7⟩; have hN5:=HD.out.2.2.1.later hb7; have r4:=nd_cell hN5.box 4; have r1:=nd_cell (heap_on hb7 HD.out.2.1) 1; have rt:=lt_of_heap hN5.box; have rc:=lt_of_heap (heap_on hb7 HD.out.2.1); have hcol' : Col c7 t.cols[j].kd [] (.slice none 0 0) y2:=(by rw [HD.out.1]; exact hcol); obtain ⟨g,cap,w6,hrun,y1,y2',⟨y3,y4⟩,hN6⟩:=hN5.add hjl hjm hcol' (by omega) (fun k hk e=>(by have:=(H5.out.col k hk (by omega)).lt; have:=HD.out.2.2.2.2.2.size; omega)); have H6:=Lib.hid hN6; clear hN6 hcol hcol' hge hN5 hb7 hem; refine ⟨_,rfl,?_⟩)
    | refine step_append_run rfl (.tmp 21) (.tmp 25) 130 rfl rfl rfl hrun ?_)
   all_goals
    go_wp2_with fail
    go_roundg (n - j)
    case measure=>omega
    case rel=>exact ⟨j+1,_,_,by go_num,by omega,by omega,H6.out⟩
  ·obtain rfl : j=n:=by omega
   have hT : ∃ lab,Tb wr T0 t 0 [] lab∧∀ b,lab b≠0→W.heap.size≤b:=NewI.tb (by rw [HN.out.1]; exact hNj)
   have HF:=Lib.hid (And.intro hT hNj.below)
   clear hT hNj
   go_wp2_with fail
   go_ret
   obtain ⟨⟨lab,h1,h2⟩,h3⟩:=HF.out
   exact ⟨T0,lab,rfl,h1,h2,h3⟩
end
end Go.Proofs.YtjepplacnaoomaaGreat
