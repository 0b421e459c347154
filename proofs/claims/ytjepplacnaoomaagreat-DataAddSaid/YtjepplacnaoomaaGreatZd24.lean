import Derived.Test.YtjepplacnaoomaaGreatZd23
namespace Go.Proofs.YtjepplacnaoomaaGreat
open Go Go.RowKit Go.Proofs Co Co.S
def colV (c : C) : Value:=.agg #[.string c.nm,.int .i64 c.kd,.bool c.mu,.string c.tgt]
section
variable {W W' : World} {tb next : Nat} {t : T} {i : In} {lab : Nat→Nat}
theorem tat_any (h : TbM W tb t next i lab) {x : Int} (hx : F64 x) : Calls Tryz.prog 84 #[(Value.pointer (some ⟨tb,0,none⟩)),.int .i64 x] W fun e w'=>e=.returned (.tuple #[.int .i64 (((i.f x).getD 0 : Nat) : Int),.bool (i.f x).isSome])∧w'=W:=by
 have hl:=h.place.look hx
 obtain ⟨_,_,_,_,_,c5,_⟩:=h.cells
 have zl:=h.tlt
 generalize (((i.f x).getD 0 : Nat) : Int)=p at hl ⊢
 generalize (i.f x).isSome=ok at hl ⊢
 generalize i.pv=pv at c5 hl
 clear h hx
 go_enter Tryz.func84,Tryz.ntmps84
 go_wp2_with (at_lookup; refine wpList_look rfl (.tmp 14) (.tmp 15) 131 true rfl rfl rfl hl ?_)
 go_ret2
 exact ⟨rfl,rfl⟩
theorem colfn_any {c : C} {x : ByteArray} {b : Nat} {w : World} (h : w.cell? ⟨b,0,none⟩=some (.string x)) : Calls Tryz.prog 119 #[colV c,(Value.pointer (some ⟨b,0,none⟩))] w fun e w'=>e=.returned (.bool (isC x c))∧Below w.heap.size w w':=by
 have hlt : b<w.heap.size:=World.block_lt_of_cell? w ⟨b,0,none⟩ h
 have hx2 : (c.nm.toList == x.toList)=isC x c:=by rw [eqS_toList]; rfl
 generalize isC x c=r at hx2 ⊢
 unfold colV
 go_enter Tryz.func119,Tryz.ntmps119
 go_wp2
 go_ret
 exact ⟨rfl,below_alloc w _⟩
set_option maxRecDepth 100000 in
set_option maxHeartbeats 1000000 in
theorem ixf_any {l : List C} {v : Value} {x : ByteArray} {b : Nat} {W : World} (h : RdC W v l) (hb : W.cell? ⟨b,0,none⟩=some (.string x)) : Calls Tryz.prog 118 #[v,.func (.func 119) #[] #[(Value.pointer (some ⟨b,0,none⟩))]] W fun e w'=>e=.returned (.int .i64 (ixC l x))∧Below W.heap.size W w':=by
 obtain ⟨pc,cc,hcv,hc,hm⟩:=h.slice
 obtain ⟨n,hn⟩ : ∃ n,l.length=n:=⟨_,rfl⟩
 unfold maxLen at hm
 rw [hn] at hcv hc
 subst hcv
 have hbl : b<W.heap.size:=World.block_lt_of_cell? W ⟨b,0,none⟩ hb
 have HN:=Lib.hid hn
 have HW:=Lib.hid (And.intro h (And.intro hb hbl))
 have hent:=enters_of Tryz.func119 (by kernel_rfl) rfl
 clear h hb hn hbl
 go_enter Tryz.func118,Tryz.ntmps118
 go_wp2_with fail
 go_loopg [8] (n+1) (fun gh jv w=>∃ (j : Nat),jv=.int .i64 (j : Int)∧j≤n∧n+1≤j+gh∧(∀ i (h : i<l.length),i<j→isC x l[i]=false)∧Below W.heap.size W w)
 case atStart=>exact ⟨0,rfl,Nat.zero_le _,by omega,fun i _ hi=>by omega,Below.refl _ _⟩
 case round =>
  obtain ⟨j,rfl,hj,hg,hno,hB⟩:=hrel
  have HI:=Lib.hid (And.intro hno hB)
  by_cases hlt : j<n
  ·have hjl : j<l.length:=by rw [HN.out]; exact hlt
   obtain ⟨bc,off,rfl,hbc,c0,c1,c2,c3⟩:=RdC.col (HW.out.1.later hB) hjl
   have hcell : wr.cell? ⟨b,0,none⟩=some (.string x):=(World.cell?_of_block (w:=W) (hB.block b HW.out.2.2)).trans HW.out.2.1
   have hcall:=colfn_any (c:=l[j]) hcell
   obtain ⟨c,hcj⟩ : ∃ c,l[j]=c:=⟨_,rfl⟩
   rw [hcj] at c0 c1 c2 c3 hcall
   have HC:=Lib.hid hcj
   have hji : (j : Int)<(n : Int):=by omega
   clear hcj hno hB hcell
   unfold colV at hcall
   cases hx : isC x c
   ·have HX:=Lib.hid hx
    rw [hx] at hcall
    clear hx
    go_wp2_with (go_at_call 119; (with_reducible refine hcall.mono ?_); rintro e w2 ⟨rfl,hb2⟩)
    have HB2:=Lib.hid hb2
    go_roundg (n - j)
    case measure=>omega
    case rel =>
     refine ⟨j+1,by go_num,by omega,by omega,fun i hi hij=>?_,below_on HI.out.2 HB2.out⟩
     by_cases e : i=j
     ·subst e; rw [HC.out]; exact HX.out
     ·exact HI.out.1 i hi (by omega)
   ·have HX:=Lib.hid hx
    rw [hx] at hcall
    clear hx
    go_wp2_with (go_at_call 119; (with_reducible refine hcall.mono ?_); rintro e w2 ⟨rfl,hb2⟩)
    go_ret
    exact ⟨ret_int (ixC_at j (by rw [HN.out]; exact hlt) (by rw [HC.out]; exact HX.out) (fun i hi=>HI.out.1 i _ hi)).symm,below_on HI.out.2 hb2⟩
  ·go_wp2_with fail
   go_ret
   exact ⟨ret_int (ixC_none (fun i hi=>HI.out.1 i hi (by have:=HN.out; omega))).symm,HI.out.2⟩
theorem tcol_any (h : TbM W tb t next i lab) (x : ByteArray) : Calls Tryz.prog 87 #[(Value.pointer (some ⟨tb,0,none⟩)),.string x] W fun e w'=>e=.returned (.tuple #[.int .i64 (ixC t.cols x),.bool (decide (0≤ixC t.cols x))])∧Below W.heap.size W w':=by
 have hb:=below_alloc W (.cells #[.string x] 9)
 have hk:=nd_cell (heap_alloc_new W (.cells #[.string x] 9)) 0
 have h1:=h.later hb
 have hcall:=ixf_any (x:=x) h1.form.rd.1 hk
 obtain ⟨_,c1,_⟩:=h1.cells
 have zl:=h1.tlt
 have HB:=Lib.hid hb
 obtain ⟨w1,hw1⟩ : ∃ w1,W.alloc (.cells #[.string x] 9)=w1:=⟨_,rfl⟩
 obtain ⟨B,hBB⟩ : ∃ B,W.heap.size=B:=⟨_,rfl⟩
 rw [hw1] at c1 zl hcall HB
 rw [hBB] at hcall
 generalize ixC t.cols x=z at hcall ⊢
 generalize i.fc=fc at c1 hcall
 have hz : (z ≥ 0)=(0≤z):=rfl
 have HW:=Lib.hid (And.intro hw1 hBB)
 clear h h1 hb hk hw1 hBB
 go_enter Tryz.func87,Tryz.ntmps87
 go_upto_region 1 with fail
 rw [HW.out.1,HW.out.2]
 go_wp2_with (go_at_call 118; (with_reducible refine hcall.mono ?_); rintro e w2 ⟨rfl,hb2⟩)
 go_ret2
 exact ⟨rfl,below_on HB.out hb2⟩
set_option maxRecDepth 100000 in
set_option maxHeartbeats 2000000 in
theorem ttakes_any (h : TbM W tb t next i lab) (j : Nat) (hj : j<t.cols.length) (k n1 : Int) (s : ByteArray) (hs : s.size≤maxLen) : Calls Tryz.prog 88 #[(Value.pointer (some ⟨tb,0,none⟩)),.int .i64 (j : Int),(Value.agg #[Value.int .i64 (k),Value.int .i64 (n1),Value.string (s)])] W fun e w'=>e=.returned (.bool (inC t.cols[j].kd (k,n1,s)))∧Below W.heap.size W w':=by
 have hb:=below_alloc W (.cells #[.int .i64 k,.int .i64 n1,.string s] 26)
 have hk:=heap_alloc_new W (.cells #[.int .i64 k,.int .i64 n1,.string s] 26)
 have h1:=h.later hb
 obtain ⟨pc,cc,hcv,hc,hm⟩:=h.form.rd.1.slice
 obtain ⟨n,hn⟩ : ∃ n,t.cols.length=n:=⟨_,rfl⟩
 have hr:=h1.form.rd.1
 rw [hcv] at hr
 obtain ⟨cb,oc,rfl,hbc,_⟩:=RdC.col hr hj
 obtain ⟨kd,hkd⟩ : ∃ kd,t.cols[j].kd=kd:=⟨_,rfl⟩
 obtain ⟨w1,hw1⟩ : ∃ w1,W.alloc (.cells #[.int .i64 k,.int .i64 n1,.string s] 26)=w1:=⟨_,rfl⟩
 obtain ⟨B,hBB⟩ : ∃ B,W.heap.size=B:=⟨_,rfl⟩
 rw [hw1] at h1 hk hb hr hbc
 rw [hBB] at hk hb
 have hst : B≤w1.heap.size:=hBB ▸ hb.size
 rw [hn] at hr hcv hc
 have HX : Hid (∀ w,Below w1.heap.size w1 w→w.cell? ⟨B,0,none⟩=some (.int .i64 k)∧w.cell? ⟨B,1,none⟩=some (.int .i64 n1)∧w.cell? ⟨B,2,none⟩=some (.string s)∧w.cell? ⟨tb,1,none⟩=some (.slice (some ⟨cb,oc,none⟩) n cc)∧w.cell? ⟨cb,oc+j*4+1,none⟩=some (.int .i64 kd)∧w.heap[B]?=some (.cells #[.int .i64 k,.int .i64 n1,.string s] 26)):=Lib.hid (fun w hw=>by
  have hB2:=heap_on hw hk
  refine ⟨nd_cell hB2 0,nd_cell hB2 1,nd_cell hB2 2,?_,?_,hB2⟩
  ·rw [← hcv]; exact (h1.later hw).cells.2.1
  ·rw [← hkd]; exact (RdC.colAt (hr.later hw) hj).2.2.1)
 have HW:=Lib.hid (And.intro hw1 hBB)
 have HB:=Lib.hid (show Below W.heap.size W w1 by rw [hBB]; exact hb)
 have HS:=Lib.hid (show W.heap.size≤w1.heap.size by rw [hBB]; exact hst)
 have zn : tb<w1.heap.size:=h1.tlt
 have hji : (j : Int)<(n : Int):=by omega
 have hcl : cb<w1.heap.size:=hbc
 unfold maxLen at hm
 rw [hkd]
 unfold inC
 simp only
 clear h h1 hr hk hb hcv hst hw1 hBB hn hkd hbc
 generalize hmy : mayV k n1 s.data.toList=may
 have HM:=Lib.hid hmy
 have hmay:=fun w=>may_any k n1 s w hs
 rw [hmy] at hmay
 clear hmy
 cases may with
 | false =>
  simp only [Bool.false_and]
  go_enter Tryz.func88,Tryz.ntmps88
  go_upto_region 1 with fail
  rw [HW.out.1,HW.out.2]
  refine Par.wp_region_par 21 [.agg #[.int .i64 k,.int .i64 n1,.string s],.bool false,.bool false,undef,undef,undef,undef,undef,undef,undef,undef,undef,undef,undef,undef,undef,undef,undef,undef,undef,.bool false] (fun w=>Below w1.heap.size w1 w) ?A1 ?hm1 ?hB1 ?hA1 ((Below.refl _ _).drew) ?hop1 ?hT1
  case hm1=>kernel_rfl
  case hB1=>kernel_rfl
  case hA1 =>
   simp only [Par.putA,Par.dstAt,Act.put,List.getElem?_toArray,List.getElem?_cons_zero,List.getElem?_cons_succ,Option.bind_some,List.setIfInBounds_toArray,List.set_cons_zero,List.set_cons_succ,List.getD_cons_zero,List.getD_cons_succ]
   rfl
  case hop1 =>
   simp only [List.take_succ_cons,List.take_zero,Par.GiveAll,and_true]
   refine ⟨fun w' hR=>?_,fun w' hR=>?_,fun w' hR=>?_,fun w' hR=>?_,fun w' hR=>?_,fun w' hR=>?_,fun w' hR=>?_,fun w' hR=>?_,fun w' hR=>?_,fun w' hR=>?_,fun w' hR=>?_,fun w' hR=>?_,fun w' hR=>?_,fun w' hR=>?_,fun w' hR=>?_,fun w' hR=>?_,fun w' hR=>?_,fun w' hR=>?_,fun w' hR=>?_,fun w' hR=>?_,fun w' hR=>?_⟩
   ·have HR:=Lib.hid hR
    have b0:=(HX.out w' hR).1
    have b1:=(HX.out w' hR).2.1
    have b2:=(HX.out w' hR).2.2.1
    clear hR
    simp only [Par.Gives]
    go_simp
    all_goals exact HR.out
   ·have HR:=Lib.hid hR
    clear hR
    simp only [Par.Gives]
    go_simp
    exact (hmay w').mono (fun e w'' ⟨he,hb⟩=>⟨he,below_on HR.out hb⟩)
   ·have HR:=Lib.hid hR
    clear hR
    simp only [Par.Gives]
    go_simp
    all_goals exact HR.out
   ·have HR:=Lib.hid hR
    clear hR
    simp only [Par.Gives]
    go_simp
    all_goals exact HR.out
   ·have HR:=Lib.hid hR
    clear hR
    simp only [Par.Gives]
    go_simp
    all_goals exact HR.out
   ·have HR:=Lib.hid hR
    clear hR
    simp only [Par.Gives]
    go_simp
    all_goals exact HR.out
   ·have HR:=Lib.hid hR
    clear hR
    simp only [Par.Gives]
    go_simp
    all_goals exact HR.out
   ·have HR:=Lib.hid hR
    clear hR
    simp only [Par.Gives]
    go_simp
    all_goals exact HR.out
   ·have HR:=Lib.hid hR
    clear hR
    simp only [Par.Gives]
    go_simp
    all_goals exact HR.out
   ·have HR:=Lib.hid hR
    clear hR
    simp only [Par.Gives]
    go_simp
    all_goals exact HR.out
   ·have HR:=Lib.hid hR
    clear hR
    simp only [Par.Gives]
    go_simp
    all_goals exact HR.out
   ·have HR:=Lib.hid hR
    clear hR
    simp only [Par.Gives]
    go_simp
    all_goals exact HR.out
   ·have HR:=Lib.hid hR
    clear hR
    simp only [Par.Gives]
    go_simp
    all_goals exact HR.out
   ·have HR:=Lib.hid hR
    clear hR
    simp only [Par.Gives]
    go_simp
    all_goals exact HR.out
   ·have HR:=Lib.hid hR
    clear hR
    simp only [Par.Gives]
    go_simp
    all_goals exact HR.out
   ·have HR:=Lib.hid hR
    clear hR
    simp only [Par.Gives]
    go_simp
    all_goals exact HR.out
   ·have HR:=Lib.hid hR
    clear hR
    simp only [Par.Gives]
    go_simp
    all_goals exact HR.out
   ·have HR:=Lib.hid hR
    clear hR
    simp only [Par.Gives]
    go_simp
    all_goals exact HR.out
   ·have HR:=Lib.hid hR
    clear hR
    simp only [Par.Gives]
    go_simp
    all_goals exact HR.out
   ·have HR:=Lib.hid hR
    clear hR
    simp only [Par.Gives]
    go_simp
    all_goals exact HR.out
   ·have HR:=Lib.hid hR
    clear hR
    simp only [Par.Gives]
    go_simp
    all_goals exact HR.out
  case hT1 =>
   intro w' hR
   simp only [List.drop_succ_cons,List.drop_zero]
   have hW:=HB.out.trans (hR.mono HS.out)
   clear hR
   go_wp2_with fail
   go_ret
   exact ⟨rfl,hW⟩
 | true =>
  by_cases h0 : k=0
  ·have e0 : (k == 0)=true:=by simp [h0]
   have e0d : decide (k=0)=true:=decide_eq_true h0
   rw [e0d]
   simp only [Bool.true_and,Bool.true_or]
   clear e0d h0
   go_enter Tryz.func88,Tryz.ntmps88
   go_upto_region 1 with fail
   rw [HW.out.1,HW.out.2]
   refine Par.wp_region_par 21 [.agg #[.int .i64 k,.int .i64 n1,.string s],.bool true,.bool true,(Value.pointer (some ⟨B,0,none⟩)),.int .i64 k,.bool true,.bool true,undef,undef,undef,undef,undef,undef,undef,undef,undef,undef,undef,undef,.bool true,.bool true] (fun w=>Below w1.heap.size w1 w) ?A2 ?hm2 ?hB2 ?hA2 ((Below.refl _ _).drew) ?hop2 ?hT2
   case hm2=>kernel_rfl
   case hB2=>kernel_rfl
   case hA2 =>
    simp only [Par.putA,Par.dstAt,Act.put,List.getElem?_toArray,List.getElem?_cons_zero,List.getElem?_cons_succ,Option.bind_some,List.setIfInBounds_toArray,List.set_cons_zero,List.set_cons_succ,List.getD_cons_zero,List.getD_cons_succ]
    rfl
   case hop2 =>
    simp only [List.take_succ_cons,List.take_zero,Par.GiveAll,and_true]
    refine ⟨fun w' hR=>?_,fun w' hR=>?_,fun w' hR=>?_,fun w' hR=>?_,fun w' hR=>?_,fun w' hR=>?_,fun w' hR=>?_,fun w' hR=>?_,fun w' hR=>?_,fun w' hR=>?_,fun w' hR=>?_,fun w' hR=>?_,fun w' hR=>?_,fun w' hR=>?_,fun w' hR=>?_,fun w' hR=>?_,fun w' hR=>?_,fun w' hR=>?_,fun w' hR=>?_,fun w' hR=>?_,fun w' hR=>?_⟩
    ·have HR:=Lib.hid hR
     have b0:=(HX.out w' hR).1
     have b1:=(HX.out w' hR).2.1
     have b2:=(HX.out w' hR).2.2.1
     clear hR
     simp only [Par.Gives]
     go_simp
     all_goals exact HR.out
    ·have HR:=Lib.hid hR
     clear hR
     simp only [Par.Gives]
     go_simp
     exact (hmay w').mono (fun e w'' ⟨he,hb⟩=>⟨he,below_on HR.out hb⟩)
    ·have HR:=Lib.hid hR
     clear hR
     simp only [Par.Gives]
     go_simp
     all_goals exact HR.out
    ·have HR:=Lib.hid hR
     have b0:=(HX.out w' hR).1
     have zl:=lt_of_heap (HX.out w' hR).2.2.2.2.2
     clear hR
     simp only [Par.Gives]
     go_simp
     all_goals exact HR.out
    ·have HR:=Lib.hid hR
     have b0:=(HX.out w' hR).1
     have zl:=lt_of_heap (HX.out w' hR).2.2.2.2.2
     clear hR
     simp only [Par.Gives]
     go_simp
     all_goals exact HR.out
    ·have HR:=Lib.hid hR
     clear hR
     simp only [Par.Gives]
     go_simp
     all_goals exact HR.out
    ·have HR:=Lib.hid hR
     clear hR
     simp only [Par.Gives]
     go_simp
     all_goals exact HR.out
    ·have HR:=Lib.hid hR
     clear hR
     simp only [Par.Gives]
     go_simp
     all_goals exact HR.out
    ·have HR:=Lib.hid hR
     clear hR
     simp only [Par.Gives]
     go_simp
     all_goals exact HR.out
    ·have HR:=Lib.hid hR
     clear hR
     simp only [Par.Gives]
     go_simp
     all_goals exact HR.out
    ·have HR:=Lib.hid hR
     clear hR
     simp only [Par.Gives]
     go_simp
     all_goals exact HR.out
    ·have HR:=Lib.hid hR
     clear hR
     simp only [Par.Gives]
     go_simp
     all_goals exact HR.out
    ·have HR:=Lib.hid hR
     clear hR
     simp only [Par.Gives]
     go_simp
     all_goals exact HR.out
    ·have HR:=Lib.hid hR
     clear hR
     simp only [Par.Gives]
     go_simp
     all_goals exact HR.out
    ·have HR:=Lib.hid hR
     clear hR
     simp only [Par.Gives]
     go_simp
     all_goals exact HR.out
    ·have HR:=Lib.hid hR
     clear hR
     simp only [Par.Gives]
     go_simp
     all_goals exact HR.out
    ·have HR:=Lib.hid hR
     clear hR
     simp only [Par.Gives]
     go_simp
     all_goals exact HR.out
    ·have HR:=Lib.hid hR
     clear hR
     simp only [Par.Gives]
     go_simp
     all_goals exact HR.out
    ·have HR:=Lib.hid hR
     clear hR
     simp only [Par.Gives]
     go_simp
     all_goals exact HR.out
    ·have HR:=Lib.hid hR
     clear hR
     simp only [Par.Gives]
     go_simp
     all_goals exact HR.out
    ·have HR:=Lib.hid hR
     clear hR
     simp only [Par.Gives]
     go_simp
     all_goals exact HR.out
   case hT2 =>
    intro w' hR
    simp only [List.drop_succ_cons,List.drop_zero]
    have hW:=HB.out.trans (hR.mono HS.out)
    clear hR
    go_wp2_with fail
    go_ret
    exact ⟨rfl,hW⟩
  ·have e0 : (k == 0)=false:=by simp [h0]
   have e0d : decide (k=0)=false:=decide_eq_false h0
   rw [e0d]
   simp only [Bool.true_and,Bool.false_or]
   have ee : (k == kd)=decide (k=kd):=by rw [Bool.eq_iff_iff]; simp
   generalize decide (k=kd)=ke at ee ⊢
   clear e0d h0
   go_enter Tryz.func88,Tryz.ntmps88
   go_upto_region 1 with fail
   rw [HW.out.1,HW.out.2]
   refine Par.wp_region_par 21 [.agg #[.int .i64 k,.int .i64 n1,.string s],.bool true,.bool true,(Value.pointer (some ⟨B,0,none⟩)),.int .i64 k,.bool false,.bool false,(Value.pointer (some ⟨B,0,none⟩)),.int .i64 k,(Value.pointer (some ⟨tb,0,none⟩)),(Value.pointer (some ⟨tb,0,none⟩)),(Value.pointer (some ⟨tb,0,none⟩)),(Value.pointer (some ⟨tb,1,none⟩)),.slice (some ⟨cb,oc,none⟩) n cc,.int .i64 (j : Int),(Value.pointer (some ⟨cb,oc+j*4,none⟩)),(Value.pointer (some ⟨cb,oc+j*4+1,none⟩)),.int .i64 kd,.bool ke,.bool ke,.bool ke] (fun w=>Below w1.heap.size w1 w) ?A3 ?hm3 ?hB3 ?hA3 ((Below.refl _ _).drew) ?hop3 ?hT3
   case hm3=>kernel_rfl
   case hB3=>kernel_rfl
   case hA3 =>
    simp only [Par.putA,Par.dstAt,Act.put,List.getElem?_toArray,List.getElem?_cons_zero,List.getElem?_cons_succ,Option.bind_some,List.setIfInBounds_toArray,List.set_cons_zero,List.set_cons_succ,List.getD_cons_zero,List.getD_cons_succ]
    rfl
   case hop3 =>
    simp only [List.take_succ_cons,List.take_zero,Par.GiveAll,and_true]
    refine ⟨fun w' hR=>?_,fun w' hR=>?_,fun w' hR=>?_,fun w' hR=>?_,fun w' hR=>?_,fun w' hR=>?_,fun w' hR=>?_,fun w' hR=>?_,fun w' hR=>?_,fun w' hR=>?_,fun w' hR=>?_,fun w' hR=>?_,fun w' hR=>?_,fun w' hR=>?_,fun w' hR=>?_,fun w' hR=>?_,fun w' hR=>?_,fun w' hR=>?_,fun w' hR=>?_,fun w' hR=>?_,fun w' hR=>?_⟩
    ·have HR:=Lib.hid hR
     have b0:=(HX.out w' hR).1
     have b1:=(HX.out w' hR).2.1
     have b2:=(HX.out w' hR).2.2.1
     clear hR
     simp only [Par.Gives]
     go_simp
     all_goals exact HR.out
    ·have HR:=Lib.hid hR
     clear hR
     simp only [Par.Gives]
     go_simp
     exact (hmay w').mono (fun e w'' ⟨he,hb⟩=>⟨he,below_on HR.out hb⟩)
    ·have HR:=Lib.hid hR
     clear hR
     simp only [Par.Gives]
     go_simp
     all_goals exact HR.out
    ·have HR:=Lib.hid hR
     have b0:=(HX.out w' hR).1
     have zl:=lt_of_heap (HX.out w' hR).2.2.2.2.2
     clear hR
     simp only [Par.Gives]
     go_simp
     all_goals exact HR.out
    ·have HR:=Lib.hid hR
     have b0:=(HX.out w' hR).1
     have zl:=lt_of_heap (HX.out w' hR).2.2.2.2.2
     clear hR
     simp only [Par.Gives]
     go_simp
     all_goals exact HR.out
    ·have HR:=Lib.hid hR
     clear hR
     simp only [Par.Gives]
     go_simp
     all_goals exact HR.out
    ·have HR:=Lib.hid hR
     clear hR
     simp only [Par.Gives]
     go_simp
     all_goals exact HR.out
    ·have HR:=Lib.hid hR
     have b0:=(HX.out w' hR).1
     have zl:=lt_of_heap (HX.out w' hR).2.2.2.2.2
     clear hR
     simp only [Par.Gives]
     go_simp
     all_goals exact HR.out
    ·have HR:=Lib.hid hR
     have b0:=(HX.out w' hR).1
     have zl:=lt_of_heap (HX.out w' hR).2.2.2.2.2
     clear hR
     simp only [Par.Gives]
     go_simp
     all_goals exact HR.out
    ·have HR:=Lib.hid hR
     clear hR
     simp only [Par.Gives]
     go_simp
     all_goals exact HR.out
    ·have HR:=Lib.hid hR
     clear hR
     simp only [Par.Gives]
     go_simp
     all_goals exact HR.out
    ·have HR:=Lib.hid hR
     clear hR
     simp only [Par.Gives]
     go_simp
     all_goals exact HR.out
    ·have HR:=Lib.hid hR
     clear hR
     simp only [Par.Gives]
     go_simp
     all_goals exact HR.out
    ·have HR:=Lib.hid hR
     have zt:=(HX.out w' hR).2.2.2.1
     clear hR
     simp only [Par.Gives]
     go_simp
     all_goals exact HR.out
    ·have HR:=Lib.hid hR
     clear hR
     simp only [Par.Gives]
     go_simp
     all_goals exact HR.out
    ·have HR:=Lib.hid hR
     clear hR
     simp only [Par.Gives]
     go_simp
     all_goals exact HR.out
    ·have HR:=Lib.hid hR
     clear hR
     simp only [Par.Gives]
     go_simp
     all_goals exact HR.out
    ·have HR:=Lib.hid hR
     have zk:=(HX.out w' hR).2.2.2.2.1
     clear hR
     simp only [Par.Gives]
     go_simp
     all_goals exact HR.out
    ·have HR:=Lib.hid hR
     clear hR
     simp only [Par.Gives]
     go_simp
     all_goals exact HR.out
    ·have HR:=Lib.hid hR
     clear hR
     simp only [Par.Gives]
     go_simp
     all_goals exact HR.out
    ·have HR:=Lib.hid hR
     clear hR
     simp only [Par.Gives]
     go_simp
     all_goals exact HR.out
   case hT3 =>
    intro w' hR
    simp only [List.drop_succ_cons,List.drop_zero]
    have hW:=HB.out.trans (hR.mono HS.out)
    clear hR
    go_wp2_with fail
    go_ret
    exact ⟨rfl,hW⟩
end
end Go.Proofs.YtjepplacnaoomaaGreat
