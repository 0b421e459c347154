import Derived.Test.YtjepplacnaoomaaGreatZd51
import Derived.Test.YtjepplacnaoomaaGreatZd53
import Derived.Test.YtjepplacnaoomaaGreatZd52
import Derived.Test.YtjepplacnaoomaaGreatZd45
import Derived.Test.YtjepplacnaoomaaGreatZd42
import Derived.Test.YtjepplacnaoomaaGreatZd37
namespace Go.Proofs.YtjepplacnaoomaaGreat
open Go Go.RowKit Go.Proofs Co Co.S
def kept (us : List T) (j : Nat) : List T:=(us.take j).foldl addT []
theorem kept_succ (us : List T) (i : Nat) (h : i<us.length) : kept us (i+1)=addT (kept us i) us[i]:=by
 unfold kept
 rw [List.take_succ_eq_append_getElem h,List.foldl_append]; rfl
theorem kept_all : ∀ (l ts : List T),InvQ ts→AllFew ts→InvQ (l.foldl addT ts)∧AllFew (l.foldl addT ts)
 | [],_,h,k=>⟨h,k⟩
 | t :: r,ts,h,k=>kept_all r (addT ts t) (h.add t) (k.add t)
theorem kept_inv (us : List T) (j : Nat) : InvQ (kept us j)∧AllFew (kept us j):=kept_all _ [] nil_invQ AllFew.nil
def NamesOk (ts : List T) : Prop:=∀ t∈ts,t.nm.size≤maxLen∧0<t.cols.length
theorem names_add {ts : List T} {t : T} (h : NamesOk ts) (hs : SmQ t) : NamesOk (addT ts t):=by
 unfold addT
 split
 ·rename_i h0
  intro u hu
  rw [List.mem_append,List.mem_singleton] at hu
  rcases hu with hu | rfl
  ·exact h u hu
  ·exact ⟨hs.1,by show 0<(t.cols.map _).length; rw [List.length_map]; exact cols_of h0⟩
 ·exact h
theorem kept_names : ∀ (l ts : List T),(∀ t∈l,SmQ t)→NamesOk ts→NamesOk (l.foldl addT ts)
 | [],_,_,k=>k
 | t :: r,ts,h,k=>kept_names r (addT ts t) (fun u hu=>h u (List.mem_cons_of_mem _ hu)) (names_add k (h t List.mem_cons_self))
section
variable {K : Nat→Prop} {W0 w w' : World} {d b : Nat} {ts us : List T} {st : List DT} {tt : List RT} {t : T} {cv dv : Value}
theorem PS.addD2 (h : PS K W0 w d ts st b us tt) (hT : RdT w cv dv t) (hsm : SmQ t) (hfew : AllFew ts) (hz : ∀ s∈st,s.2=(0,[])) :
  Calls Tryz.prog 28 #[(Value.pointer (some ⟨d,0,none⟩)),.agg #[.string t.nm,cv,.string t.key,dv]] w fun e w'=>e=.returned (.int .i64 (mayP ts t))∧∃ st',(∀ s∈st',s.2=(0,[]))∧PS K W0 w' d (addT ts t) st' b us tt:=by
 unfold addT
 by_cases h0 : mayP ts t=0
 ·rw [if_pos h0,h0]
  refine (h.addD hT hsm h0 hfew).mono ?_
  rintro e w' ⟨rfl,st',⟨tb,rfl⟩,hP⟩
  refine ⟨rfl,_,fun s hs=>?_,hP⟩
  rcases List.mem_append.1 hs with hs | hs
  ·exact hz s hs
  ·rw [List.mem_singleton.1 hs]
 ·rw [if_neg h0]
  exact h.turnD (R:=fun e=>e=.returned (.int .i64 (mayP ts t))) (Q:=fun st'=>∀ s∈st',s.2=(0,[])) (fun Od hD=>(dadd_no hD hT hsm h0).mono (by
   rintro e w' ⟨rfl,k1,k3⟩
   exact ⟨rfl,st,Od,hz,k1,fun _ _=>rfl,k3.mono (fun q _ hq=>by have hq : Od q=1:=hq; show Od q≠0; omega)⟩))
theorem PS.addN2 (h : PS K W0 w d ts st b us tt) (hi : InvQ us) (hT : RdT w cv dv t) (hsm : SmQ t) (hc : t.cols.length≤1000) :
  Calls Tryz.prog 29 #[(Value.pointer (some ⟨b,0,none⟩)),.agg #[.string t.nm,cv,.string t.key,dv]] w fun e w'=>e=.returned (.int .i64 (mayP us t))∧∃ tt',PS K W0 w' d ts st b (addT us t) tt':=by
 unfold addT
 by_cases h0 : mayP us t=0
 ·rw [if_pos h0,h0]
  refine (h.addN hi hT hsm h0 (cols_of h0) hc).mono ?_
  rintro e w' ⟨rfl,hP⟩
  exact ⟨rfl,_,hP⟩
 ·rw [if_neg h0]
  refine (h.turnN (R:=fun e=>e=.returned (.int .i64 (mayP us t))) (us':=us) (tt':=tt) (fun i Ob hD=>(nadd_no hD hi hT hsm h0).mono (by
   rintro e w' ⟨rfl,hb⟩
   exact ⟨rfl,i,Ob,hD.later hb,fun _ _=>rfl,Tn.of_below hb⟩))).mono ?_
  rintro e w' ⟨rfl,hP⟩
  exact ⟨rfl,_,hP⟩
end
section
open Par
structure AJq (K : Nat→Prop) (W0 : World) (d b : Nat) (ts ts' : List T) (E : Nat→Value) (l : Nat→Bool) (vs : Nat→Value) (w : World) : Prop where
 ev : ∀ j,l j=true→vs j=E j
 ps : ∃ st tt,(∀ s∈st,s.2=(0,[]))∧PS K W0 w d (if l 5=true then ts' else ts) st b (if l 11=true then ts' else ts) tt
variable {K : Nat→Prop} {W0 w w' : World} {d b : Nat} {ts ts' : List T} {E : Nat→Value} {l : Nat→Bool} {vs : Nat→Value} {t : T} {cv dv : Value}
theorem AJq.evs (h : ∀ j,l j=true→vs j=E j) (i : Nat) : ∀ j,upB l i j=true→upV vs i (E i) j=E j:=fun j hl=>by
 by_cases e : j=i
 ·subst e; rw [upV_eq]
 ·rw [upV_ne e]; rw [upB_ne e] at hl; exact h j hl
theorem AJq.up (h : AJq K W0 d b ts ts' E l vs w) (i : Nat) (hi : i≠5∧i≠11) : AJq K W0 d b ts ts' E (upB l i) (upV vs i (E i)) w:=by
 refine ⟨AJq.evs h.ev i,?_⟩
 rw [upB_ne (fun e=>hi.1 e.symm),upB_ne (fun e=>hi.2 e.symm)]
 exact h.ps
theorem AJq.callD (h : AJq K W0 d b ts ts' E l vs w) (h5 : l 5=false) (hR : RdT W0 cv dv t) (hsm : SmQ t) (hfew : AllFew ts) (e' : ts'=addT ts t) (eE : E 5=.int .i64 (mayP ts t)) :
  Calls Tryz.prog 28 #[(Value.pointer (some ⟨d,0,none⟩)),.agg #[.string t.nm,cv,.string t.key,dv]] w fun e w'=>e=.returned (.int .i64 (mayP ts t))∧AJq K W0 d b ts ts' E (upB l 5) (upV vs 5 (.int .i64 (mayP ts t))) w':=by
 obtain ⟨st,tt,hz,hP⟩:=h.ps
 simp only [h5,Bool.false_eq_true,if_false] at hP
 refine (hP.addD2 (hR.kp hP.kpX) hsm hfew hz).mono ?_
 rintro e w' ⟨rfl,st',hz',hP'⟩
 refine ⟨rfl,eE ▸ AJq.evs h.ev 5,st',tt,hz',?_⟩
 have q5 : upB l 5 5=true:=upB_eq
 have q11 : upB l 5 11=l 11:=upB_ne (by decide)
 simp only [q5,q11,if_true]
 rw [e'] at hP' ⊢
 exact hP'
theorem AJq.callN (h : AJq K W0 d b ts ts' E l vs w) (h11 : l 11=false) (hR : RdT W0 cv dv t) (hsm : SmQ t) (hi : InvQ ts) (hc : t.cols.length≤1000) (e' : ts'=addT ts t) (eE : E 11=.int .i64 (mayP ts t)) :
  Calls Tryz.prog 29 #[(Value.pointer (some ⟨b,0,none⟩)),.agg #[.string t.nm,cv,.string t.key,dv]] w fun e w'=>e=.returned (.int .i64 (mayP ts t))∧AJq K W0 d b ts ts' E (upB l 11) (upV vs 11 (.int .i64 (mayP ts t))) w':=by
 obtain ⟨st,tt,hz,hP⟩:=h.ps
 simp only [h11,Bool.false_eq_true,if_false] at hP
 refine (hP.addN2 hi (hR.kp hP.kpX) hsm hc).mono ?_
 rintro e w' ⟨rfl,tt',hP'⟩
 refine ⟨rfl,eE ▸ AJq.evs h.ev 11,st,tt',hz,?_⟩
 have q5 : upB l 11 5=l 5:=upB_ne (by decide)
 have q11 : upB l 11 11=true:=upB_eq
 simp only [q5,q11,if_true]
 rw [e'] at hP' ⊢
 exact hP'
theorem AJq.still (h : AJq K W0 d b ts ts' E l vs w) {q : Nat} (hq : K q) : w.heap[q]?=W0.heap[q]?:=by
 obtain ⟨st,tt,_,hP⟩:=h.ps
 exact hP.still hq
structure NJ (W : World) (m : Nat) (E : Nat→Value) (l : Nat→Bool) (vs : Nat→Value) (w : World) : Prop where
 bel : Below W.heap.size W w
 ev : ∀ j,j≠4→l j=true→vs j=E j
 v4 : l 4=true→∃ p c,vs 4=.slice p m c
variable {W : World} {m : Nat}
theorem NJ.up (h : NJ W m E l vs w) (i : Nat) (hi : i≠4) : NJ W m E (upB l i) (upV vs i (E i)) w:=by
 refine ⟨h.bel,fun j a hl=>?_,fun hl=>?_⟩
 ·by_cases e : j=i
  ·subst e; rw [upV_eq]
  ·rw [upV_ne e]; rw [upB_ne e] at hl; exact h.ev j a hl
 ·rw [upB_ne (fun e=>hi e.symm)] at hl
  rw [upV_ne (fun e=>hi e.symm)]; exact h.v4 hl
theorem NJ.names (h : NJ W m E l vs w) (hb : Below w.heap.size w w') {p : Option Addr} {c : Nat} : NJ W m E (upB l 4) (upV vs 4 (.slice p m c)) w':=by
 refine ⟨below_on h.bel hb,fun j a hl=>?_,fun hl=>⟨p,c,upV_eq⟩⟩
 rw [upV_ne a]; rw [upB_ne a] at hl; exact h.ev j a hl
end
set_option maxRecDepth 100000 in
set_option maxHeartbeats 8000000 in
theorem add12_law {l : List T} {lv : Value} (W : World) (hl : InTs W lv l) : Calls Tryz.prog 6 #[lv] W fun e w'=>e=.returned (.bool true)∧Below W.heap.size W w':=by
 have hbeg:=begun12_any W
 have HL:=Lib.hid hl
 obtain ⟨pl,cl,rfl,_,_⟩:=hl.slice
 obtain ⟨nl,hnl⟩ : ∃ n,l.length=n:=⟨_,rfl⟩
 rw [hnl] at HL ⊢
 clear hl hnl
 go_enter Tryz.func6,Tryz.ntmps6
 go_upto_region 4 with (go_at_call 11; (with_reducible refine hbeg.mono ?_); rintro e w0 ⟨rfl,hb2⟩; have H0:=Lib.hid hb2; clear hbeg hb2)
 have hnew:=dnew_any w0
 have hba:=below_alloc w0 (.cells (zero91 ++ [Value.int .i64 0,Value.map none]).toArray 101)
 have hbb:=below_on hba (below_alloc (w0.alloc (.cells (zero91 ++ [Value.int .i64 0,Value.map none]).toArray 101)) (.cells #[.slice none 0 0,.slice none 0 0,.slice none 0 0] 42))
 have hps:=PS.new w0
 obtain ⟨w1,hw1⟩ : ∃ w1,w0.alloc (.cells (zero91 ++ [Value.int .i64 0,Value.map none]).toArray 101)=w1:=⟨_,rfl⟩
 have hz1 : w1.heap.size=w0.heap.size+1:=by rw [← hw1,World.size_alloc]
 rw [hw1] at hnew hbb hps
 obtain ⟨w2,hw2⟩ : ∃ w2,w1.alloc (.cells #[.slice none 0 0,.slice none 0 0,.slice none 0 0] 42)=w2:=⟨_,rfl⟩
 have hz2 : w2.heap.size=w0.heap.size+2:=by rw [← hw2,World.size_alloc,hz1]
 rw [hw2] at hbb hps
 obtain ⟨d,hd⟩ : ∃ d,w0.heap.size=d:=⟨_,rfl⟩
 rw [hd] at hz1 hps hnew
 have HW2:=Lib.hid hw2
 have HZ1:=Lib.hid hz1
 have HB:=Lib.hid (And.intro hbb (And.intro hz2 (And.intro hd hps)))
 clear hw1 hw2 hz1 hz2 hba hbb hd hps
 go_upto_region 5 with (go_at_call 26; (with_reducible refine hnew.mono ?_); rintro e wx ⟨rfl,hw⟩; subst hw; clear hnew)
 rw [HW2.out,HZ1.out]
 have htab:=tables_any (HL.out.on (below_on H0.out HB.out.1))
 go_upto_region 6 with (go_at_call 27; (with_reducible refine htab.mono ?_); rintro e w3 ⟨p,n,c,xs,rfl,hTR,hn,hb3⟩; have hP0:=HB.out.2.2.2 w3 hb3; have H3:=Lib.hid (And.intro hTR (And.intro hb3 (And.intro hP0 hn))); clear htab hTR hb3 hP0 hn)
 obtain ⟨us,hus⟩ : ∃ x,(l.map cutTb).take 12=x:=⟨_,rfl⟩
 have hsm : ∀ t∈us,SmQ t∧t.cols.length≤1000:=fun t ht=>by
  rw [← hus] at ht
  obtain ⟨t',_,rfl⟩:=List.mem_map.1 (List.mem_of_mem_take ht)
  exact ⟨cut_smQ t',Nat.le_trans (cut_cols t') (by decide)⟩
 have hu12 : us.length≤12:=by rw [← hus,List.length_take]; omega
 rw [hus] at H3
 have HSM:=Lib.hid (And.intro hsm hu12)
 clear hus hsm hu12
 have hn12 : (n : Int)≤12:=by have:=HSM.out.2; have:=H3.out.2.2.2; omega
 go_wp2_with fail
 go_loopg [6] (n+1) (fun gh jv w=>∃ (j : Nat) (st : List DT) (tt : List RT),jv=.int .i64 (j : Int)∧j≤n∧n+1≤j+gh∧(∀ s∈st,s.2=(0,[]))∧PS (fun q=>q<w3.heap.size∧q≠d∧q≠d+1) w3 w d (kept us j) st (d+1) (kept us j) tt)
 case atStart=>exact ⟨0,[],[],rfl,Nat.zero_le _,by omega,fun _ h=>(by cases h),H3.out.2.2.1⟩
 case round =>
  obtain ⟨j,st,tt,rfl,hj,hg,hz,hP⟩:=hrel
  by_cases hlt : j<n
  ·have hji : (j : Int)<(n : Int):=by omega
   have hju : j<us.length:=by rw [← H3.out.2.2.2]; exact hlt
   have hrow:=H3.out.1.row
   rw [← H3.out.2.2.2] at hrow
   obtain ⟨g,c',e1,_,_⟩:=hrow.slice (by omega)
   cases e1
   have hg1:=HRow.lt hrow g rfl
   have hgK : g<w3.heap.size∧g≠d∧g≠d+1:=by have:=HB.out.2.1; have:=HB.out.2.2.1; omega
   obtain ⟨cv,dv,c0,c1,c2,c3,hrt⟩:=H3.out.1.tabs.2 j hju
   obtain ⟨t,ht⟩ : ∃ t,us[j]=t:=⟨_,rfl⟩
   rw [ht] at c0 c2 hrt
   have hsm:=HSM.out.1 t (by rw [← ht]; exact List.getElem_mem hju)
   obtain ⟨pc,kc,rfl,_,_⟩:=hrt.1.slice
   obtain ⟨pd,kd,rfl,_,_⟩:=hrt.2.slice
   have hk1:=kept_succ us j hju
   rw [ht] at hk1
   obtain ⟨hi,hfew⟩:=kept_inv us j
   obtain ⟨nm,hnm⟩ : ∃ x,t.nm=x:=⟨_,rfl⟩
   obtain ⟨key,hkey⟩ : ∃ x,t.key=x:=⟨_,rfl⟩
   obtain ⟨nc,hnc⟩ : ∃ x,t.cols.length=x:=⟨_,rfl⟩
   obtain ⟨nd,hnd⟩ : ∃ x,t.deps.length=x:=⟨_,rfl⟩
   rw [hnm] at c0
   rw [hkey] at c2
   rw [hnc] at c1 hrt
   rw [hnd] at c3 hrt
   obtain ⟨may,hmay⟩ : ∃ x,mayP (kept us j) t=x:=⟨_,rfl⟩
   have HC : Hid (∀ (w : World),w.heap[g]?=w3.heap[g]?→w.cell? ⟨g,j*4,none⟩=some (.string nm)∧w.cell? ⟨g,j*4+1,none⟩=some (.slice pc nc kc)∧w.cell? ⟨g,j*4+2,none⟩=some (.string key)∧w.cell? ⟨g,j*4+3,none⟩=some (.slice pd nd kd)):=Lib.hid (fun w hw =>
    ⟨(World.cell?_of_block (w:=w3) hw).trans (hrow.cell c0),(World.cell?_of_block (w:=w3) hw).trans (hrow.cell c1),(World.cell?_of_block (w:=w3) hw).trans (hrow.cell c2),(World.cell?_of_block (w:=w3) hw).trans (hrow.cell c3)⟩)
   have HT:=Lib.hid (And.intro hnm (And.intro hkey (And.intro hmay (And.intro hk1 (And.intro hi (And.intro hfew (And.intro hsm (And.intro hgK hrt))))))))
   have HJ0:=Lib.hid (And.intro hz hP)
   clear hrow hg1 hgK c0 c1 c2 c3 hrt ht hsm hk1 hi hfew hnm hkey hnc hnd hmay hz hP
   go_upto_region 9 with fail
   refine Par.wp_region_par4 13 (AJq (fun q=>q<w3.heap.size∧q≠d∧q≠d+1) w3 d (d+1) (kept us j) (kept us (j+1)) (fun idx=>[(Value.pointer (some ⟨d,0,none⟩)),.slice (some ⟨g,0,none⟩) n c,(Value.int .i64 ((j : Int))),(Value.pointer (some ⟨g,j*4,none⟩)),(.agg #[.string nm,.slice pc nc kc,.string key,.slice pd nd kd]),.int .i64 may,(Value.pointer (some ⟨d+1,0,none⟩)),.slice (some ⟨g,0,none⟩) n c,(Value.int .i64 ((j : Int))),(Value.pointer (some ⟨g,j*4,none⟩)),(.agg #[.string nm,.slice pc nc kc,.string key,.slice pd nd kd]),.int .i64 may,.bool false].getD idx undef)) ?AA ?hmA ?hBA ?hAA ?hJA ?hopA ?hTA
   case hmA=>kernel_rfl
   case hBA=>kernel_rfl
   case hAA =>
    intro vs
    simp only [Par.putA,Par.dstAt,Act.put,List.getElem?_toArray,List.getElem?_cons_zero,List.getElem?_cons_succ,Option.bind_some,List.setIfInBounds_toArray,List.set_cons_zero,List.set_cons_succ]
    rfl
   case hopA =>
    simp only [List.take_succ_cons,List.take_zero,Par.GiveAllK,and_true]
    refine ⟨fun l vs w hJ hl hd hcl=>?_,fun l vs w hJ hl hd hcl=>?_,fun l vs w hJ hl hd hcl=>?_,fun l vs w hJ hl hd hcl=>?_,fun l vs w hJ hl hd hcl=>?_,fun l vs w hJ hl hd hcl=>?_,fun l vs w hJ hl hd hcl=>?_,fun l vs w hJ hl hd hcl=>?_,fun l vs w hJ hl hd hcl=>?_,fun l vs w hJ hl hd hcl=>?_,fun l vs w hJ hl hd hcl=>?_,fun l vs w hJ hl hd hcl=>?_,fun l vs w hJ hl hd hcl=>?_⟩
    ·have HJ:=Lib.hid hJ
     clear hJ hd hcl
     simp only [Par.GivesW]
     go_simp
     all_goals exact HJ.out.up 0 (by decide)
    ·have HJ:=Lib.hid hJ
     clear hJ hd hcl
     simp only [Par.GivesW]
     go_simp
     all_goals exact HJ.out.up 1 (by decide)
    ·have HJ:=Lib.hid hJ
     clear hJ hd hcl
     simp only [Par.GivesW]
     go_simp
     all_goals exact HJ.out.up 2 (by decide)
    ·have HJ:=Lib.hid hJ
     have d1 : vs 1=.slice (some ⟨g,0,none⟩) n c:=hJ.ev 1 (hd 1 (by kernel_rfl))
     have d2 : vs 2=(Value.int .i64 ((j : Int))):=hJ.ev 2 (hd 2 (by kernel_rfl))
     clear hJ hd hcl
     simp only [Par.GivesW,d1,d2]
     go_simp
     all_goals exact HJ.out.up 3 (by decide)
    ·have HJ:=Lib.hid hJ
     have d3 : vs 3=(Value.pointer (some ⟨g,j*4,none⟩)):=hJ.ev 3 (hd 3 (by kernel_rfl))
     obtain ⟨z0,z1,z2,z3⟩:=HC.out w (hJ.still HT.out.2.2.2.2.2.2.2.1)
     clear hJ hd hcl
     simp only [Par.GivesW,d3]
     go_simp
     all_goals exact HJ.out.up 4 (by decide)
    ·have HJ:=Lib.hid hJ
     have d0 : vs 0=(Value.pointer (some ⟨d,0,none⟩)):=hJ.ev 0 (hd 0 (by kernel_rfl))
     have d4 : vs 4=(.agg #[.string nm,.slice pc nc kc,.string key,.slice pd nd kd]):=hJ.ev 4 (hd 4 (by kernel_rfl))
     have hc:=hJ.callD hl HT.out.2.2.2.2.2.2.2.2 HT.out.2.2.2.2.2.2.1.1 HT.out.2.2.2.2.2.1 HT.out.2.2.2.1 (by rw [HT.out.2.2.1]; rfl)
     rw [HT.out.1,HT.out.2.1,HT.out.2.2.1] at hc
     clear hJ hd hcl
     simp only [Par.GivesW,d0,d4]
     go_simp
     refine hc.mono ?_
     rintro e y2 ⟨rfl,hJ2⟩
     exact ⟨_,rfl,hJ2⟩
    ·have HJ:=Lib.hid hJ
     clear hJ hd hcl
     simp only [Par.GivesW]
     go_simp
     all_goals exact HJ.out.up 6 (by decide)
    ·have HJ:=Lib.hid hJ
     clear hJ hd hcl
     simp only [Par.GivesW]
     go_simp
     all_goals exact HJ.out.up 7 (by decide)
    ·have HJ:=Lib.hid hJ
     clear hJ hd hcl
     simp only [Par.GivesW]
     go_simp
     all_goals exact HJ.out.up 8 (by decide)
    ·have HJ:=Lib.hid hJ
     have d7 : vs 7=.slice (some ⟨g,0,none⟩) n c:=hJ.ev 7 (hd 7 (by kernel_rfl))
     have d8 : vs 8=(Value.int .i64 ((j : Int))):=hJ.ev 8 (hd 8 (by kernel_rfl))
     clear hJ hd hcl
     simp only [Par.GivesW,d7,d8]
     go_simp
     all_goals exact HJ.out.up 9 (by decide)
    ·have HJ:=Lib.hid hJ
     have d9 : vs 9=(Value.pointer (some ⟨g,j*4,none⟩)):=hJ.ev 9 (hd 9 (by kernel_rfl))
     obtain ⟨z0,z1,z2,z3⟩:=HC.out w (hJ.still HT.out.2.2.2.2.2.2.2.1)
     clear hJ hd hcl
     simp only [Par.GivesW,d9]
     go_simp
     all_goals exact HJ.out.up 10 (by decide)
    ·have HJ:=Lib.hid hJ
     have d6 : vs 6=(Value.pointer (some ⟨d+1,0,none⟩)):=hJ.ev 6 (hd 6 (by kernel_rfl))
     have d10 : vs 10=(.agg #[.string nm,.slice pc nc kc,.string key,.slice pd nd kd]):=hJ.ev 10 (hd 10 (by kernel_rfl))
     have hc:=hJ.callN hl HT.out.2.2.2.2.2.2.2.2 HT.out.2.2.2.2.2.2.1.1 HT.out.2.2.2.2.1 HT.out.2.2.2.2.2.2.1.2 HT.out.2.2.2.1 (by rw [HT.out.2.2.1]; rfl)
     rw [HT.out.1,HT.out.2.1,HT.out.2.2.1] at hc
     clear hJ hd hcl
     simp only [Par.GivesW,d6,d10]
     go_simp
     refine hc.mono ?_
     rintro e y2 ⟨rfl,hJ2⟩
     exact ⟨_,rfl,hJ2⟩
    ·have HJ:=Lib.hid hJ
     have d5 : vs 5=.int .i64 may:=hJ.ev 5 (hd 5 (by kernel_rfl))
     have d11 : vs 11=.int .i64 may:=hJ.ev 11 (hd 11 (by kernel_rfl))
     have eb : (may != may)=false:=by simp
     clear hJ hd hcl
     simp only [Par.GivesW,d5,d11]
     go_simp
     all_goals exact HJ.out.up 12 (by decide)
   case hJA =>
    intro vs
    exact ⟨fun _ h=>(by cases h),st,tt,HJ0.out.1,HJ0.out.2.later (below_drew wr)⟩
   case hTA =>
    intro l vs w4 hl hJ
    simp only [List.drop_succ_cons,List.drop_nil]
    have e12 : vs 12=.bool false:=hJ.ev 12 (hl 12 (by decide))
    obtain ⟨st',tt',hz',hP'⟩:=hJ.ps
    simp only [hl 5 (by decide),hl 11 (by decide),if_true] at hP'
    have HP':=Lib.hid (And.intro hz' hP')
    generalize vs 0=s0
    generalize vs 1=s1
    generalize vs 2=s2
    generalize vs 3=s3
    generalize vs 4=s4
    generalize vs 5=s5
    generalize vs 6=s6
    generalize vs 7=s7
    generalize vs 8=s8
    generalize vs 9=s9
    generalize vs 10=s10
    generalize vs 11=s11
    rw [e12]
    clear hJ hl e12 hz' hP'
    go_wp2_with fail
    go_roundg (n - j)
    case measure=>omega
    case rel=>exact ⟨j+1,st',tt',by go_num,by omega,by omega,HP'.out.1,HP'.out.2⟩
  ·obtain rfl : j=n:=by omega
   obtain ⟨ts,hts⟩ : ∃ ts,kept us j=ts:=⟨_,rfl⟩
   have hiv:=kept_inv us j
   have hno : NamesOk (kept us j):=kept_names _ [] (fun t ht=>(HSM.out.1 t (List.mem_of_mem_take ht)).1) (fun _ h=>(by cases h))
   rw [hts] at hP hiv hno
   have hb4 : Below W.heap.size W wr:=by
    obtain ⟨_,_,_,_,_,_,_,h5⟩:=hP
    have k1:=below_on H0.out (below_on HB.out.1 H3.out.2.1)
    refine k1.trans ⟨h5.chg.os,h5.chg.tape,h5.chg.output,h5.chg.size,fun q hq=>h5.chg.block q (Nat.lt_of_lt_of_le hq k1.size) (fun hS=>hS ⟨Nat.lt_of_lt_of_le hq k1.size,?_,?_⟩)⟩
    ·have:=HB.out.2.2.1; have:=H0.out.size; omega
    ·have:=HB.out.2.2.1; have:=H0.out.size; omega
   obtain ⟨Od,Ob,i,hD,hN,_⟩:=hP
   obtain ⟨m,hm⟩ : ∃ m,ts.length=m:=⟨_,rfl⟩
   have hm8 : (m : Int)≤8:=by have:=hiv.1.len; omega
   have hbx:=hN.box
   obtain ⟨psv,csv,esv,_,_⟩:=hN.form.isslice
   rw [esv,hm] at hbx
   have HBX : Hid (∀ w,Below wr.heap.size wr w→w.cell? ⟨d+1,0,none⟩=some (.slice psv m csv)∧d+1<w.heap.size):=Lib.hid (fun w hw=>⟨nd_cell (heap_on hw hbx) 0,lt_of_heap (heap_on hw hbx)⟩)
   obtain ⟨mv,f,nf,hSch,_⟩:=hD.own
   have hsc:=dschema_any (W:=wr) (hD.lt d (by rw [hD.od]; decide))
   have HNM : Hid (∀ w,Below wr.heap.size wr w→Calls Tryz.prog 31 #[(Value.pointer (some ⟨d,0,none⟩))] w fun e w'=>∃ p c,e=.returned (.slice p m c)∧Below w.heap.size w w'):=Lib.hid (fun w hw=>by
    refine (sNames_any (mv:=mv) (show SchP mv w (Value.pointer (some ⟨d,0,none⟩)) ts from .inr ⟨d,rfl,hSch.later hw⟩) (Nat.le_trans hiv.1.len (by decide))).mono ?_
    rintro e w' ⟨v',rfl,hr,hb⟩
    rw [hm] at hr
    obtain ⟨p',c',rfl,_,_⟩:=hr.isslice
    exact ⟨p',c',rfl,hb⟩)
   have HE:=Lib.hid (And.intro hb4 (And.intro hD (And.intro hN (And.intro hm (And.intro esv (And.intro hz hno))))))
   clear hb4 hD hN hm esv hz hno hbx hSch hts hiv
   go_upto_region 12 with (go_at_call 30; (with_reducible refine hsc.mono ?_); rintro e wx ⟨rfl,hw⟩; subst hw; clear hsc)
   refine Par.wp_region_par4 13 (NJ wx m (fun idx=>[(Value.pointer (some ⟨d,0,none⟩)),.bool false,.bool false,(Value.pointer (some ⟨d,0,none⟩)),undef,(Value.int .i64 ((m : Int))),(Value.pointer (some ⟨d+1,0,none⟩)),(Value.pointer (some ⟨d+1,0,none⟩)),(Value.pointer (some ⟨d+1,0,none⟩)),.slice psv m csv,(Value.int .i64 ((m : Int))),.bool false,.bool false].getD idx undef)) ?AB ?hmB ?hBB ?hAB ?hJB ?hopB ?hTB
   case hmB=>kernel_rfl
   case hBB=>kernel_rfl
   case hAB =>
    intro vs
    simp only [Par.putA,Par.dstAt,Act.put,List.getElem?_toArray,List.getElem?_cons_zero,List.getElem?_cons_succ,Option.bind_some,List.setIfInBounds_toArray,List.set_cons_zero,List.set_cons_succ]
    rfl
   case hopB =>
    simp only [List.take_succ_cons,List.take_zero,Par.GiveAllK,and_true]
    refine ⟨fun l vs w hJ hl hd hcl=>?_,fun l vs w hJ hl hd hcl=>?_,fun l vs w hJ hl hd hcl=>?_,fun l vs w hJ hl hd hcl=>?_,fun l vs w hJ hl hd hcl=>?_,fun l vs w hJ hl hd hcl=>?_,fun l vs w hJ hl hd hcl=>?_,fun l vs w hJ hl hd hcl=>?_,fun l vs w hJ hl hd hcl=>?_,fun l vs w hJ hl hd hcl=>?_,fun l vs w hJ hl hd hcl=>?_,fun l vs w hJ hl hd hcl=>?_,fun l vs w hJ hl hd hcl=>?_⟩
    ·have HJ:=Lib.hid hJ
     clear hJ hd hcl
     simp only [Par.GivesW]
     go_simp
     all_goals exact HJ.out.up 0 (by decide)
    ·have HJ:=Lib.hid hJ
     have d0 : vs 0=(Value.pointer (some ⟨d,0,none⟩)):=hJ.ev 0 (by decide) (hd 0 (by kernel_rfl))
     clear hJ hd hcl
     simp only [Par.GivesW,d0]
     go_simp
     all_goals exact HJ.out.up 1 (by decide)
    ·have HJ:=Lib.hid hJ
     have d1 : vs 1=.bool false:=hJ.ev 1 (by decide) (hd 1 (by kernel_rfl))
     clear hJ hd hcl
     simp only [Par.GivesW,d1]
     go_simp
     all_goals exact HJ.out.up 2 (by decide)
    ·have HJ:=Lib.hid hJ
     have d2 : vs 2=.bool false:=hJ.ev 2 (by decide) (hd 2 (by kernel_rfl))
     clear hJ hd hcl
     simp only [Par.GivesW,d2]
     go_simp
     all_goals exact HJ.out.up 3 (by decide)
    ·have HJ:=Lib.hid hJ
     have d3 : vs 3=(Value.pointer (some ⟨d,0,none⟩)):=hJ.ev 3 (by decide) (hd 3 (by kernel_rfl))
     have d2 : vs 2=.bool false:=hJ.ev 2 (by decide) (hd 2 (by kernel_rfl))
     have hc:=HNM.out w hJ.bel
     clear hJ hd hcl
     simp only [Par.GivesW,d3,d2]
     go_simp
     refine hc.mono ?_
     rintro e y2 ⟨p9,c9,rfl,hb9⟩
     exact ⟨_,rfl,HJ.out.names hb9⟩
    ·have HJ:=Lib.hid hJ
     have d2 : vs 2=.bool false:=hJ.ev 2 (by decide) (hd 2 (by kernel_rfl))
     obtain ⟨p9,c9,d4⟩:=hJ.v4 (hd 4 (by kernel_rfl))
     clear hJ hd hcl
     simp only [Par.GivesW,d2]
     go_simp
     all_goals exact HJ.out.up 5 (by decide)
    ·have HJ:=Lib.hid hJ
     have d2 : vs 2=.bool false:=hJ.ev 2 (by decide) (hd 2 (by kernel_rfl))
     clear hJ hd hcl
     simp only [Par.GivesW,d2]
     go_simp
     all_goals exact HJ.out.up 6 (by decide)
    ·have HJ:=Lib.hid hJ
     have d6 : vs 6=(Value.pointer (some ⟨d+1,0,none⟩)):=hJ.ev 6 (by decide) (hd 6 (by kernel_rfl))
     have d2 : vs 2=.bool false:=hJ.ev 2 (by decide) (hd 2 (by kernel_rfl))
     obtain ⟨x0,xl⟩:=HBX.out w hJ.bel
     clear hJ hd hcl
     simp only [Par.GivesW,d6,d2]
     go_simp
     all_goals exact HJ.out.up 7 (by decide)
    ·have HJ:=Lib.hid hJ
     have d7 : vs 7=(Value.pointer (some ⟨d+1,0,none⟩)):=hJ.ev 7 (by decide) (hd 7 (by kernel_rfl))
     have d2 : vs 2=.bool false:=hJ.ev 2 (by decide) (hd 2 (by kernel_rfl))
     clear hJ hd hcl
     simp only [Par.GivesW,d7,d2]
     go_simp
     all_goals exact HJ.out.up 8 (by decide)
    ·have HJ:=Lib.hid hJ
     have d8 : vs 8=(Value.pointer (some ⟨d+1,0,none⟩)):=hJ.ev 8 (by decide) (hd 8 (by kernel_rfl))
     have d2 : vs 2=.bool false:=hJ.ev 2 (by decide) (hd 2 (by kernel_rfl))
     obtain ⟨x0,xl⟩:=HBX.out w hJ.bel
     clear hJ hd hcl
     simp only [Par.GivesW,d8,d2]
     go_simp
     all_goals exact HJ.out.up 9 (by decide)
    ·have HJ:=Lib.hid hJ
     have d9 : vs 9=.slice psv m csv:=hJ.ev 9 (by decide) (hd 9 (by kernel_rfl))
     have d2 : vs 2=.bool false:=hJ.ev 2 (by decide) (hd 2 (by kernel_rfl))
     clear hJ hd hcl
     simp only [Par.GivesW,d9,d2]
     go_simp
     all_goals exact HJ.out.up 10 (by decide)
    ·have HJ:=Lib.hid hJ
     have d5 : vs 5=(Value.int .i64 ((m : Int))):=hJ.ev 5 (by decide) (hd 5 (by kernel_rfl))
     have d10 : vs 10=(Value.int .i64 ((m : Int))):=hJ.ev 10 (by decide) (hd 10 (by kernel_rfl))
     have d2 : vs 2=.bool false:=hJ.ev 2 (by decide) (hd 2 (by kernel_rfl))
     have eb : ((m : Int) != (m : Int))=false:=by simp
     clear hJ hd hcl
     simp only [Par.GivesW,d5,d10,d2]
     go_simp
     all_goals exact HJ.out.up 11 (by decide)
    ·have HJ:=Lib.hid hJ
     have d2 : vs 2=.bool false:=hJ.ev 2 (by decide) (hd 2 (by kernel_rfl))
     have d11 : vs 11=.bool false:=hJ.ev 11 (by decide) (hd 11 (by kernel_rfl))
     clear hJ hd hcl
     simp only [Par.GivesW,d2,d11]
     go_simp
     all_goals exact HJ.out.up 12 (by decide)
   case hJB =>
    intro vs
    exact ⟨below_drew wx,fun _ _ h=>(by cases h),fun h=>(by cases h)⟩
   case hTB =>
    intro l vs w5 hl hJ
    simp only [List.drop_succ_cons,List.drop_nil]
    have e12 : vs 12=.bool false:=hJ.ev 12 (by decide) (hl 12 (by decide))
    have H5:=Lib.hid hJ.bel
    generalize vs 0=s0
    generalize vs 1=s1
    generalize vs 2=s2
    generalize vs 3=s3
    generalize vs 4=s4
    generalize vs 5=s5
    generalize vs 6=s6
    generalize vs 7=s7
    generalize vs 8=s8
    generalize vs 9=s9
    generalize vs 10=s10
    generalize vs 11=s11
    rw [e12]
    clear hJ hl e12
    go_wp2_with fail
    go_loopg [8] (m+1) (fun gh jv w=>∃ (t : Nat),jv=.int .i64 (t : Int)∧t≤m∧m+1≤t+gh∧Below wx.heap.size wx w)
    case atStart=>exact ⟨0,rfl,Nat.zero_le _,by omega,H5.out⟩
    case round =>
     obtain ⟨t,rfl,ht,hg,hB⟩:=hrel
     obtain ⟨x0,xl⟩:=HBX.out wr hB
     by_cases hlt : t<m
     ·have hti : (t : Int)<(m : Int):=by omega
      have htp : t<ts.length:=by rw [HE.out.2.2.2.1]; exact hlt
      have htt : t<tt.length:=by rw [HE.out.2.2.1.n]; exact htp
      have hts : t<st.length:=by rw [HE.out.2.1.len]; exact htp
      obtain ⟨⟨gs,cs,go,co,gn,cn,pc,kc,pd,kd⟩,esv,eov,env,_,_,_,hR⟩:=HE.out.2.2.1.reads htp (List.getElem?_eq_getElem htt)
      have hRw:=hR wr hB
      have epsv : psv=some ⟨gs,0,none⟩∧csv=cs:=by
       have h2:=hRw.b0
       rw [HE.out.2.2.2.1] at h2
       have h3 : some (Value.slice psv m csv)=some (Value.slice (some ⟨gs,0,none⟩) m cs):=x0.symm.trans h2
       cases h3; exact ⟨rfl,rfl⟩
      obtain ⟨rfl,rfl⟩:=epsv
      have htb:=(HE.out.2.1.later hB).table htp (HE.out.2.2.2.2.2.2 _ (List.getElem_mem htp)).1 hts
      obtain ⟨lab,hTb,_⟩:=(HE.out.2.1.later hB).tab t htp hts
      have hz0 : st[t].2=(0,[]):=HE.out.2.2.2.2.2.1 _ (List.getElem_mem hts)
      obtain ⟨⟨tb,nx,A⟩,hst⟩ : ∃ s,st[t]=s:=⟨_,rfl⟩
      rw [hst] at htb hTb hz0
      cases hz0
      have hnx:=tb_next hTb
      try simp only at htb hnx
      have y0:=hRw.s0
      have yl:=hRw.sl
      try simp only at y0 yl
      obtain ⟨nm,hnm⟩ : ∃ x,ts[t].nm=x:=⟨_,rfl⟩
      rw [hnm] at y0 htb
      have HB2:=Lib.hid hB
      clear hB hR hRw esv eov env hnm hTb hst
      go_wp2_with (first
       | (go_at_call 32; (with_reducible refine htb.mono ?_); rintro e wy ⟨rfl,hw⟩; subst hw; clear htb)
       | (go_at_call 33; (with_reducible refine hnx.mono ?_); rintro e wy ⟨rfl,hw⟩; subst hw; clear hnx))
      go_roundg (m - t)
      case measure=>omega
      case rel=>exact ⟨t+1,by go_num,by omega,by omega,HB2.out⟩
     ·obtain rfl : t=m:=by omega
      have HB2:=Lib.hid hB
      clear hB
      go_wp2_with fail
      go_ret
      exact ⟨rfl,below_on HE.out.1 HB2.out⟩
end Go.Proofs.YtjepplacnaoomaaGreat
