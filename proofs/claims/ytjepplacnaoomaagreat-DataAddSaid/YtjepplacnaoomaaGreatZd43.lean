import Derived.Test.YtjepplacnaoomaaGreatZd37
namespace Go.Proofs.YtjepplacnaoomaaGreat
open Go Go.RowKit Go.Proofs
variable {mv : Value}
set_option maxRecDepth 100000 in
set_option maxHeartbeats 4000000 in
theorem sadd_any {t : T} {cv dv : Value} {sb : Nat} {ts : List T} {W : World} (h : RdT W cv dv t) (hs : Sch mv W sb ts) (hsm : SmQ t) : Calls Tryz.prog 72 #[(Value.pointer (some ⟨sb,0,none⟩)),.agg #[.string t.nm,cv,.string t.key,dv]] W fun e w'=>e=.returned (.int .i64 (mayP ts t))∧Sch mv w' sb (addT ts t)∧Chg (fun b=>b=sb) W w':=by
 have hB0:=below_alloc W (boxT t.nm cv t.key dv)
 have h0:=heap_alloc_new W (boxT t.nm cv t.key dv)
 have hm:=may_anyQ (h.later hB0) (hs.later hB0) hsm
 obtain ⟨S,hS⟩ : ∃ S,W.heap.size=S:=⟨_,rfl⟩
 obtain ⟨w0,hw0⟩ : ∃ w0,W.alloc (boxT t.nm cv t.key dv)=w0:=⟨_,rfl⟩
 rw [hw0] at hB0 h0 hm
 rw [hS] at h0
 obtain ⟨pc,cc,hcv,_,_⟩:=h.1.slice
 obtain ⟨p,cap,hdv,_,_⟩:=h.2.slice
 obtain ⟨n,hn⟩ : ∃ n,t.cols.length=n:=⟨_,rfl⟩
 obtain ⟨nd,hnd⟩ : ∃ n,t.deps.length=n:=⟨_,rfl⟩
 have HB:=Lib.hid (And.intro hB0 (And.intro h0 (And.intro h hs)))
 rw [hn] at hcv
 rw [hnd] at hdv
 have HW:=Lib.hid hw0
 have HS:=Lib.hid hS
 have z0:=nd_cell h0 0
 have z1:=nd_cell h0 1
 have z2:=nd_cell h0 2
 have z3:=nd_cell h0 3
 have zl:=lt_of_heap h0
 subst hcv hdv
 clear h hs hw0 hS hB0 h0
 by_cases hz : mayP ts t=0
 ·have hf:=few_of hz
  have h8 : ts.length<8:=by
   have:=(mayP_zero hz).1
   unfold lim at this
   simp only [Bool.or_eq_false_iff,decide_eq_false_iff_not] at this
   omega
  have HZ : Hid (mayP ts t=0∧addT ts t=ts ++ [formT t]):=Lib.hid ⟨hz,by unfold addT; rw [if_pos hz]⟩
  obtain ⟨m,hml⟩ : ∃ m,ts.length=m:=⟨_,rfl⟩
  rw [hml] at h8
  rw [hz] at hm
  have HF:=Lib.hid (And.intro hf (And.intro hml (And.intro hn hnd)))
  clear hz hf hml hn hnd hsm
  go_enter Tryz.func72,Tryz.ntmps72
  go_upto_region 3 with fail
  rw [HW.out,HS.out]
  go_upto_region 6 with (go_at_call 101; (with_reducible refine hm.mono ?_); rintro e w1 ⟨rfl,hb1⟩)
  have hs1:=(HB.out.2.2.2.later (HB.out.1)).later hb1
  have hbx:=heap_on hb1 HB.out.2.1
  have hr1:=(HB.out.2.2.1.later (HB.out.1)).later hb1
  have hcp:=scopied_any (hr1.later (below_drew w1)) HF.out.1
  rw [HF.out.2.2.1,HF.out.2.2.2] at hcp
  have ent27 : ∀ a w,(callFunc 90 a).run Tryz.prog w=.ok (.enter 90 a) w:=by intro a w; rfl
  have ent26 : ∀ a w,(callFunc 102 a).run Tryz.prog w=.ok (.enter 102 a) w:=by intro a w; rfl
  clear z0 z1 z2 z3 zl hm
  have z0:=nd_cell hbx 0
  have z1:=nd_cell hbx 1
  have z2:=nd_cell hbx 2
  have z3:=nd_cell hbx 3
  have zl:=lt_of_heap hbx
  obtain ⟨v0,v1⟩:=hs1.num
  rw [HF.out.2.1] at v1
  have H1:=Lib.hid (And.intro hs1 (below_on HB.out.1 hb1))
  have hm8 : (m : Int)<8:=by omega
  clear hs1 hb1 hr1 hbx
  go_region_law (first
   | (refine step_call ent27 [.agg #[.string t.nm,.slice pc n cc,.string t.key,.slice p nd cap]] (by simp [Act.eval]) ?_; (with_reducible refine Calls.mono hcp ?_); rintro e y2 ⟨p1,c1,p2,c2,ps,rfl,hO,hb2⟩; have hkm:=keyMust_any hO HF.out.1.1; have hs2:=(H1.out.1.later (below_drew w1)).later hb2; have hv2:=hs2.num; rw [HF.out.2.1] at hv2; obtain ⟨v2,v3⟩:=hv2; have H2:=Lib.hid (And.intro hs2 (And.intro hb2 hO)); clear hs2 hb2 hO hcp; refine ⟨_,rfl,?_⟩)
   | (refine step_call ent26 [.agg #[.string t.nm,.slice p1 n c1,.string t.key,.slice p2 nd c2]] (by simp [Act.eval]) ?_; (with_reducible refine Calls.mono hkm ?_); rintro e y3 ⟨rfl,hO3,hch⟩; obtain ⟨xs,a0,a1,a2,a3,r,hk3,hx3,hl3,ht3,hb3⟩:=add_mid H1.out.1 H2.out.2.1 H2.out.2.2 hch HF.out.2.1 h8; obtain ⟨q0,q1,q2,q3,q4⟩:=room_cells hk3 hx3 hl3; have qf:=fun i=>frozen_of_row y3 sb i _ _ hk3; have ql:=lt_of_heap hk3; have H3:=Lib.hid (And.intro hO3 (And.intro hk3 (And.intro hx3 (And.intro hl3 (And.intro ht3 hb3))))); clear hO3 hch hk3 hx3 hl3 ht3 hb3 hkm; refine ⟨_,rfl,?_⟩))
  all_goals
   have hfin:=fun (m1 : Int) (hm1 : m1=(m : Int)+1)=>add_end (W:=W) H3.out.1 H3.out.2.1 H3.out.2.2.1 H3.out.2.2.2.1 H3.out.2.2.2.2.1 (below_on H1.out.2 H3.out.2.2.2.2.2) HF.out.2.1 h8 hm1
   have hb4:=put4 H3.out.2.1 H3.out.2.2.1 (.string t.nm) (.slice p1 n c1) (.string t.key) (.slice p2 nd c2)
   clear q0 q1 q2 q3 q4 qf ql v1 v3 z0 z1 z2 z3
   generalize (((y3.setCell _ _).setCell _ _).setCell _ _).setCell _ _=wz at hfin hb4 ⊢
   obtain ⟨_,_,_,_,q4⟩:=room_cells hb4 H3.out.2.2.1 H3.out.2.2.2.1
   have qf:=fun i=>frozen_of_row wz sb i _ _ hb4
   have ql:=lt_of_heap hb4
   have HFin:=Lib.hid hfin
   clear hfin hb4
   go_wp2_with fail
   go_ret
   exact ⟨ret_int HZ.out.1.symm,by rw [HZ.out.2]; exact (HFin.out _ rfl).1,(HFin.out _ rfl).2⟩
 ·have HZ : Hid (addT ts t=ts):=Lib.hid (by unfold addT; rw [if_neg hz])
  have HFin:=Lib.hid (fun (w1 : World) (hb1 : Below w0.heap.size w0 w1)=>And.intro ((HB.out.2.2.2.later HB.out.1).later hb1) (below_on HB.out.1 hb1))
  have hne : (mayP ts t != 0)=true:=by simp [hz]
  obtain ⟨z,hzz⟩ : ∃ z,mayP ts t=z:=⟨_,rfl⟩
  rw [hzz] at hm hne ⊢
  clear hz hzz hsm
  go_enter Tryz.func72,Tryz.ntmps72
  go_upto_region 3 with fail
  rw [HW.out,HS.out]
  go_wp2_with (go_at_call 101; (with_reducible refine hm.mono ?_); rintro e w1 ⟨rfl,hb1⟩)
  go_ret
  exact ⟨rfl,by rw [HZ.out]; exact (HFin.out _ hb1).1,Chg.of_below (HFin.out _ hb1).2⟩
end Go.Proofs.YtjepplacnaoomaaGreat
