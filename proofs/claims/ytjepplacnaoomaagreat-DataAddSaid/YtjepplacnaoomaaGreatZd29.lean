import Derived.Test.YtjepplacnaoomaaGreatZd28
namespace Go.Proofs.YtjepplacnaoomaaGreat
open Go Go.RowKit Go.Proofs Co Co.S
section
variable {W W' : World} {tb next : Nat} {t : T} {A : List R1} {lab : Nat→Nat}
set_option maxRecDepth 100000 in
set_option maxHeartbeats 4000000 in
theorem tb_del_yes (h : Tb W tb t next A lab) {a : R1} (ha : a∈A) (hn : next≤800) (hc : t.cols.length≤1000) :
  Calls Tryz.prog 48 #[(Value.pointer (some ⟨tb,0,none⟩)),.int .i64 a.1] W fun e w'=>e=.returned (.bool true)∧∃ lab',Tb w' tb t next (without A a.1) lab'∧Ext W lab lab'∧Tn (fun b=>lab b≠0) W w':=by
 obtain ⟨i,h1,h2⟩:=h
 obtain ⟨p,hp,hpl,_⟩:=h2.pl a ha
 have hrg:=h2.rng a ha
 have hx : F64 a.1:=by constructor <;> omega
 have hat:=tat_any h1 hx
 rw [hp] at hat
 simp only [Option.getD_some,Option.isSome_some] at hat
 obtain ⟨pc,cc,hcv,hc1,hc2⟩:=h1.cols.isslice
 obtain ⟨n,hnn⟩ : ∃ n,t.cols.length=n:=⟨_,rfl⟩
 have c4:=h1.cells.2.2.2.2.1
 have zl:=h1.tlt
 rw [hcv,hnn] at c4
 rw [hnn] at hc
 have hfew:=h2.few
 have hlens:=h2.lens
 have HI:=Lib.hid (And.intro h1 (And.intro h2 (And.intro hp (And.intro ha (And.intro hx hrg)))))
 have HN:=Lib.hid (And.intro hnn (And.intro hcv hpl))
 have HL:=Lib.hid (And.intro hfew hlens)
 unfold maxLen at hc2
 obtain ⟨x,hax⟩ : ∃ x,a.1=x:=⟨_,rfl⟩
 rw [hax] at hat HI ⊢
 have HA:=Lib.hid hax
 have hp8 : p≤800:=by omega
 clear h1 h2 hp ha hx hrg hnn hcv hpl hfew hlens hax
 go_enter Tryz.func48,Tryz.ntmps48
 go_wp2_with (go_at_call 84; (with_reducible refine hat.mono ?_); rintro e w2 ⟨rfl,hw⟩; subst w2)
 go_loopg [22] (n+1) (fun gh jv w=>∃ (j : Nat),jv=.int .i64 (j : Int)∧j≤n∧n+1≤j+gh∧DelI W tb t next i lab p j w)
 case atStart=>exact ⟨0,rfl,Nat.zero_le _,by omega,i.cl,lab,HI.out.1,fun k _=>by rw [if_neg (Nat.not_lt_zero k)],Ext.refl _ _,Tn.refl _ _⟩
 case round =>
  obtain ⟨j,rfl,hj,hg,hD⟩:=hrel
  by_cases hlt : j<n
  ·have hjc : j<t.cols.length:=by rw [HN.out.1]; exact hlt
   have hlj:=HL.out.2 j hjc
   have hcall:=hD.col hjc (by have:=HL.out.1; omega) (by rw [hlj]; exact HN.out.2.2)
   obtain ⟨gc,cc',hcs,_,_⟩ : ∃ gc cc',Value.slice pc n cc=.slice (some ⟨gc,0,none⟩) n cc'∧n≤cc'∧cc'≤maxLen:=by
    obtain ⟨g',c',e,e1,e2,k1,k2⟩:=HI.out.1.ptr hjc
    rw [HN.out.2.1,HN.out.1] at e
    exact ⟨g',c',e,by rw [← HN.out.1]; exact e1,e2⟩
   cases hcs
   obtain ⟨gl,gp⟩:=hD.ptr (n:=n) (c:=cc) (by rw [HN.out.2.1,HN.out.1]) hjc
   obtain ⟨cb,hcb⟩ : ∃ cb,i.cb j=cb:=⟨_,rfl⟩
   rw [hcb] at gp hcall
   have hji : (j : Int)<(n : Int):=by omega
   clear hD hlj hcb
   go_wp2_with (go_at_call 85; (with_reducible refine hcall.mono ?_); rintro e w4 ⟨rfl,hP4⟩; have H4:=Lib.hid hP4; clear hP4 hcall)
   go_roundg (n - j)
   case measure=>omega
   case rel=>exact ⟨j+1,by go_num,by omega,by omega,H4.out⟩
  ·obtain rfl : j=n:=by omega
   obtain ⟨cl,lab2,d1,d2,d3,d4⟩:=hD
   obtain ⟨r,hr⟩ : ∃ r,i.pv=.map r:=by
    rcases d1.place with ⟨e,_⟩ | ⟨b,e,_⟩
    ·exact ⟨_,e⟩
    ·exact ⟨_,e⟩
   obtain ⟨w1,hrun,e1,e2⟩:=d1.setdel HI.out.2.2.2.2.1 HI.out.2.2.1 0
   have c5:=d1.cells.2.2.2.2.2.1
   simp only at c5 hrun
   rw [hr] at c5 hrun
   have zr:=d1.tlt
   have z1:=e1.tlt
   have c6:=e1.cells.2.2.2.2.2.2.1
   simp only at c6
   obtain ⟨g,cap,w2,hrun1,y1,y2,⟨y3,y4⟩,lab3,e3,e4,e5⟩:=e1.addfree p (by show i.free.length≤10000; have:=HL.out.1; omega)
   simp only at hrun1
   obtain ⟨pf,cf,hfv,_,_⟩:=e1.free.isslice
   simp only at hfv
   rw [hfv] at c6 hrun1
   obtain ⟨nf,hnf⟩ : ∃ nf,i.free.length=nf:=⟨_,rfl⟩
   simp only [hnf] at e3 e5
   rw [hnf] at c6 hrun1
   have HD:=Lib.hid (And.intro d2 (And.intro (d3.trans d4.size (Ext.refl _ _)) (d4.trans e2 (fun _ _ h=>h) (ext_sub d3))))
   obtain ⟨w3,hw3⟩ : ∃ w3,w2.setCell ⟨tb,6,none⟩ (.slice (some ⟨g,0,none⟩) (nf+1) cap)=w3:=⟨_,rfl⟩
   rw [hw3] at e3 e5
   have HT:=Lib.hid (And.intro (HD.out.2.1.trans (HD.out.2.2.size) e4) (HD.out.2.2.trans e5 (fun _ _ h=>h) (ext_sub HD.out.2.1)))
   have z3:=e3.tlt
   have c8:=e3.cells.2.2.2.2.2.2.2.2.1
   simp only at c8
   obtain ⟨g',cap',w4,hrun2,v1,v2,⟨v3,v4⟩,lab4,e6,e7,e8⟩:=e3.addlate x (by show i.late.length≤10000; have:=HI.out.2.1.lat; omega)
   simp only at hrun2
   obtain ⟨pl,cl',hlv,_,_⟩:=e3.late.isslice
   simp only at hlv
   rw [hlv] at c8 hrun2
   obtain ⟨nl,hnl⟩ : ∃ nl,i.late.length=nl:=⟨_,rfl⟩
   simp only [hnl] at e6 e8
   rw [hnl] at c8 hrun2
   obtain ⟨w5,hw5⟩ : ∃ w5,w4.setCell ⟨tb,8,none⟩ (.slice (some ⟨g',0,none⟩) (nl+1) cap')=w5:=⟨_,rfl⟩
   rw [hw5] at e6 e8
   have HU:=Lib.hid (And.intro (HT.out.1.trans HT.out.2.size e7) (HT.out.2.trans e8 (fun _ _ h=>h) (ext_sub HT.out.1)))
   have z5:=e6.tlt
   have c88:=e6.cells.2.2.2.2.2.2.2.2.1
   simp only at c88
   have hlat:=HI.out.2.1.lat
   rw [hnl] at hlat
   have HE:=Lib.hid (And.intro e6 (And.intro hnl hnf))
   have HW3:=Lib.hid hw3
   have HW5:=Lib.hid hw5
   clear d1 d2 d3 d4 e1 e2 e3 e4 e5 e6 e7 e8 hr hfv hlv hnl hnf hw3 hw5
   go_upto_region 10 with (at_delete; refine wpList_del rfl (.tmp 34) (.tmp 35) 131 3 rfl rfl rfl hrun ?_)
   go_upto_region 11 with (at_builtin; refine wpList_append_run rfl (.tmp 40) (.tmp 42) 40 rfl rfl rfl hrun1 ?_)
   rw [HW3.out]
   clear hrun hrun1 y1 y2 y4 c5 c6
   go_upto_region 12 with (at_builtin; refine wpList_append_run rfl (.tmp 50) (.tmp 52) 40 rfl rfl rfl hrun2 ?_)
   rw [HW5.out]
   clear hrun2 v1 v2 v4 c8
   by_cases h64 : nl+1=64
   ·obtain rfl : nl=63:=by omega
    have hgone:=tgone_any HE.out.1 (by show (i.late ++ [x]).length≤100; rw [List.length_append,HE.out.2.1]; simp)
    go_wp2_with (go_at_call 86; (with_reducible refine hgone.mono ?_); rintro e w6 ⟨p6,n6,c6',rfl,hv6,hb6⟩; have h6:=HE.out.1.later hb6; have x7:=h6.cells.2.2.2.2.2.2.2.1; have x8:=h6.cells.2.2.2.2.2.2.2.2.1; have f7:=h6.fz 7; have f8:=h6.fz 8; have l6:=h6.tlt; have H6:=Lib.hid (And.intro h6 (And.intro hv6 hb6)); clear h6 hv6 hb6)
    obtain ⟨s1,s2⟩:=H6.out.1.setgone H6.out.2.1
    have HS:=Lib.hid (And.intro s1 s2)
    clear s1 s2
    go_ret
    refine ⟨rfl,lab4,⟨_,HS.out.1,?_⟩,HU.out.1,(HU.out.2.trans (Tn.of_below (S:=fun _=>False) H6.out.2.2) (fun _ _ h=>h) (fun _ _ h=>h.elim)).trans HS.out.2 (fun _ _ h=>h) (ext_sub HU.out.1)⟩
    rw [← HA.out]
    refine HI.out.2.1.del HI.out.2.2.2.1 (by rw [HA.out]; exact HI.out.2.2.1) rfl rfl rfl (fun y=>?_) (by show ([] : List Int).length≤63; decide) (fun k hk=>?_)
    ·show ((i.G y || ofP (i.late ++ [a.1]) y)=true∨y∈([] : List Int))↔_
     have hin : ∀ z,z∈i.late→inB z=true:=fun z hz=>by
      obtain ⟨z1,z2,_⟩:=(HI.out.2.1.gone z).1 (.inr hz)
      have:=HI.out.2.1.lim
      unfold inB
      simp; omega
     have hinx : inB a.1=true:=by
      have:=HI.out.2.2.2.2.2
      rw [← HA.out] at this
      unfold inB
      simp; omega
     unfold ofP
     simp only [List.not_mem_nil,or_false,Bool.or_eq_true,Bool.and_eq_true,decide_eq_true_eq,List.mem_append,List.mem_singleton]
     constructor
     ·rintro (h1 | ⟨h1 | h1,h2⟩)
      ·exact .inl (.inl h1)
      ·exact .inl (.inr h1)
      ·exact .inr h1
     ·rintro ((h1 | h1) | h1)
      ·exact .inl h1
      ·exact .inr ⟨.inl h1,hin y h1⟩
      ·exact .inr ⟨.inr h1,by rw [h1]; exact hinx⟩
    ·show cl k=_
     rw [HD.out.1 k (by rw [HN.out.1]; rw [HN.out.1] at hk; exact hk),if_pos (by rw [HN.out.1] at hk; exact hk)]
   ·have hne : ((nl : Int)+1 == 64)=false:=by simp; omega
    go_wp2_with fail
    go_ret
    refine ⟨rfl,lab4,⟨_,HE.out.1,?_⟩,HU.out.1,HU.out.2⟩
    rw [← HA.out]
    refine HI.out.2.1.del HI.out.2.2.2.1 (by rw [HA.out]; exact HI.out.2.2.1) rfl rfl rfl (fun y=>?_) ?_ (fun k hk=>?_)
    ·show (i.G y=true∨y∈i.late ++ [a.1])↔_
     rw [List.mem_append,List.mem_singleton,or_assoc]
    ·show (i.late ++ [a.1]).length≤63
     rw [List.length_append,HE.out.2.1]; simp; omega
    ·show cl k=_
     rw [HD.out.1 k (by rw [HN.out.1]; rw [HN.out.1] at hk; exact hk),if_pos (by rw [HN.out.1] at hk; exact hk)]
def setE (t : T) (A : List R1) (x : Int) (y : ByteArray) (v : T3) : Int:=if A.any (fun a=>decide (a.1=x)) then (if 0≤ixC t.cols y then (if inC ((t.cols[(ixC t.cols y).toNat]?).getD ⟨e0,0,false,e0⟩).kd v then 0 else 4) else 3) else 6
theorem ids_any {A : List R1} {x : Int} : A.any (fun a=>decide (a.1=x))=true↔∃ a∈A,a.1=x:=by simp
end
section
variable {W W' : World} {tb next : Nat} {t : T} {A : List R1} {lab : Nat→Nat}
set_option maxRecDepth 100000 in
set_option maxHeartbeats 2000000 in
theorem tb_set_yes (h : Tb W tb t next A lab) {a : R1} (ha : a∈A) (hn : next≤800) {y : ByteArray} {j : Nat} (hj : j<t.cols.length) (hy : ixC t.cols y=(j : Int)) (k n1 : Int) (s : ByteArray) (hs : s.size≤maxLen) (hin : inC t.cols[j].kd (k,n1,s)=true) :
  Calls Tryz.prog 50 #[(Value.pointer (some ⟨tb,0,none⟩)),.int .i64 a.1,.string y,(Value.agg #[Value.int .i64 (k),Value.int .i64 (n1),Value.string (s)])] W fun e w'=>e=.returned (.int .i64 0)∧∃ lab',Tb w' tb t next (setA A a.1 j (k,n1,s)) lab'∧Ext W lab lab'∧Tn (fun b=>lab b≠0) W w':=by
 obtain ⟨i,h1,h2⟩:=h
 obtain ⟨p,hp,hpl,_⟩:=h2.pl a ha
 have hrg:=h2.rng a ha
 have hx : F64 a.1:=by have:=h2.lim; constructor <;> omega
 have hb:=below_alloc W (.cells #[.int .i64 k,.int .i64 n1,.string s] 26)
 have hk:=heap_alloc_new W (.cells #[.int .i64 k,.int .i64 n1,.string s] 26)
 have h3:=h1.later hb
 have hat:=tat_any h3 hx
 rw [hp] at hat
 simp only [Option.getD_some,Option.isSome_some] at hat
 have hcol:=tcol_any h3 y
 rw [hy] at hcol
 have hd : decide (0≤(j : Int))=true:=by simp
 rw [hd] at hcol
 obtain ⟨g,c,hcv,n1',n2',_⟩:=h1.ptr hj
 obtain ⟨n,hnn⟩ : ∃ n,t.cols.length=n:=⟨_,rfl⟩
 obtain ⟨w1,hw1⟩ : ∃ w1,W.alloc (.cells #[.int .i64 k,.int .i64 n1,.string s] 26)=w1:=⟨_,rfl⟩
 obtain ⟨B,hBB⟩ : ∃ B,W.heap.size=B:=⟨_,rfl⟩
 rw [hw1] at h3 hk hb hat hcol
 rw [hBB] at hk
 have hfew:=h2.few
 obtain ⟨x,hax⟩ : ∃ x,a.1=x:=⟨_,rfl⟩
 have HX : Hid (∀ w,Below w1.heap.size w1 w→w.heap[B]?=some (.cells #[.int .i64 k,.int .i64 n1,.string s] 26)∧w.cell? ⟨tb,4,none⟩=some (.slice (some ⟨g,0,none⟩) n c)∧w.cell? ⟨g,j,none⟩=some (Value.pointer (some ⟨i.cb j,0,none⟩))∧tb<w.heap.size∧g<w.heap.size ∧
   (Calls Tryz.prog 88 #[(Value.pointer (some ⟨tb,0,none⟩)),.int .i64 (j : Int),(Value.agg #[Value.int .i64 (k),Value.int .i64 (n1),Value.string (s)])] w fun e w'=>e=.returned (.bool true)∧Below w.heap.size w w') ∧
   (Calls Tryz.prog 85 #[(Value.pointer (some ⟨i.cb j,0,none⟩)),.int .i64 (p : Int),(Value.agg #[Value.int .i64 (k),Value.int .i64 (n1),Value.string (s)])] w fun e w'=>e=.returned (.bool true)∧∃ lab',Tb w' tb t next (setA A x j (k,n1,s)) lab'∧Ext W lab lab'∧Tn (fun b=>lab b≠0) W w')):=Lib.hid (fun w hw=>by
  have h4:=h3.later hw
  have hWw:=below_on hb hw
  obtain ⟨g',c',e,_,_,k1,k2⟩:=h4.ptr hj
  rw [hcv] at e
  cases e
  have htk:=ttakes_any h4 j hj k n1 s hs
  rw [hin] at htk
  refine ⟨heap_on hw hk,by rw [← hnn,← hcv]; exact h4.cells.2.2.2.2.1,k2,h4.tlt,k1,htk,?_⟩
  have hl:=h2.lens j hj
  refine (col_set (h4.col j hj) (by omega) p (by omega) (k,n1,s) hs hin).mono ?_
  rintro e w' ⟨rfl,q1,q2⟩
  obtain ⟨lab3,s1,s2,s3⟩:=h4.setcol hj q1 q2 (fun q hq=>.inl hq)
  refine ⟨rfl,lab3,⟨_,s1,?_⟩,fun b hb2=>s2 b (Nat.lt_of_lt_of_le hb2 hWw.size),(Tn.of_below (S:=fun _=>False) hWw).trans s3 (fun _ _ h=>h.elim) (fun _ _ h=>h)⟩
  rw [← hax]
  refine h2.set ha hj hp rfl rfl rfl rfl rfl (fun k' hk'=>?_)
  show updF i.cl j _ k'=_
  by_cases e : k'=j
  ·subst e
   rw [updF_same,if_pos rfl]
  ·rw [updF_other _ _ e,if_neg e])
 rw [hax] at hat ⊢
 have HB:=Lib.hid (show Below W.heap.size W w1 from hb)
 have HW:=Lib.hid (And.intro hw1 hBB)
 rw [hnn] at n1' hj
 have hji : (j : Int)<(n : Int):=by omega
 unfold maxLen at n2'
 generalize i.cb j=cb at HX
 clear h1 h2 h3 hp hpl hrg hx hb hk hy hd hcv hnn hw1 hBB hfew hax hin hs
 go_enter Tryz.func50,Tryz.ntmps50
 go_upto_region 1 with fail
 rw [HW.out.1,HW.out.2]
 go_upto_region 9 with (first
  | (go_at_call 84; (with_reducible refine hat.mono ?_); rintro e w2 ⟨rfl,hw⟩; subst w2)
  | (go_at_call 87; (with_reducible refine hcol.mono ?_); rintro e w3 ⟨rfl,hb3⟩; obtain ⟨hx3,y4,yj,yt,yg,htk,_⟩:=HX.out w3 hb3; have z0:=nd_cell hx3 0; have z1:=nd_cell hx3 1; have z2:=nd_cell hx3 2; have zl:=lt_of_heap hx3; have H3:=Lib.hid hb3; clear hx3 hb3 hcol)
  | (go_at_call 88; (with_reducible refine htk.mono ?_); rintro e w4 ⟨rfl,hb4⟩; have H4:=Lib.hid (below_on H3.out hb4); clear hb4 htk))
 obtain ⟨hx4,y44,yj4,yt4,yg4,_,hset⟩:=HX.out w4.drew (below_on H4.out (below_drew w4))
 have HC:=Lib.hid hset
 have q0:=nd_cell hx4 0
 have q1:=nd_cell hx4 1
 have q2:=nd_cell hx4 2
 have ql:=lt_of_heap hx4
 clear hset hx4 z0 z1 z2 zl y4 yj yt yg
 refine Par.wp_region_par 9 [(Value.pointer (some ⟨tb,0,none⟩)),(Value.pointer (some ⟨tb,0,none⟩)),(Value.pointer (some ⟨tb,4,none⟩)),.slice (some ⟨g,0,none⟩) n c,.int .i64 (j : Int),(Value.pointer (some ⟨g,j,none⟩)),(Value.pointer (some ⟨cb,0,none⟩)),.int .i64 (p : Int),(Value.agg #[Value.int .i64 (k),Value.int .i64 (n1),Value.string (s)])] (fun w=>w=w4.drew) ?A1 ?hm1 ?hB1 ?hA1 (rfl) ?hop1 ?hT1
 case hm1=>kernel_rfl
 case hB1=>kernel_rfl
 case hA1 =>
  simp only [Par.putA,Par.dstAt,Act.put,List.getElem?_toArray,List.getElem?_cons_zero,List.getElem?_cons_succ,Option.bind_some,List.setIfInBounds_toArray,List.set_cons_zero,List.set_cons_succ,List.getD_cons_zero,List.getD_cons_succ]
  rfl
 case hop1 =>
  simp only [List.take_succ_cons,List.take_zero,Par.GiveAll,and_true]
  refine ⟨fun w' hR=>?_,fun w' hR=>?_,fun w' hR=>?_,fun w' hR=>?_,fun w' hR=>?_,fun w' hR=>?_,fun w' hR=>?_,fun w' hR=>?_,fun w' hR=>?_⟩
  ·have HR:=Lib.hid hR
   obtain rfl:=hR
   simp only [Par.Gives]
   go_simp
   all_goals exact HR.out
  ·have HR:=Lib.hid hR
   obtain rfl:=hR
   simp only [Par.Gives]
   go_simp
   all_goals exact HR.out
  ·have HR:=Lib.hid hR
   obtain rfl:=hR
   simp only [Par.Gives]
   go_simp
   all_goals exact HR.out
  ·have HR:=Lib.hid hR
   obtain rfl:=hR
   simp only [Par.Gives]
   go_simp
   all_goals exact HR.out
  ·have HR:=Lib.hid hR
   obtain rfl:=hR
   simp only [Par.Gives]
   go_simp
   all_goals exact HR.out
  ·have HR:=Lib.hid hR
   obtain rfl:=hR
   simp only [Par.Gives]
   go_simp
   all_goals exact HR.out
  ·have HR:=Lib.hid hR
   obtain rfl:=hR
   simp only [Par.Gives]
   go_simp
   all_goals exact HR.out
  ·have HR:=Lib.hid hR
   obtain rfl:=hR
   simp only [Par.Gives]
   go_simp
   all_goals exact HR.out
  ·have HR:=Lib.hid hR
   obtain rfl:=hR
   simp only [Par.Gives]
   go_simp
   all_goals exact HR.out
 case hT1 =>
  intro w' hR
  simp only [List.drop_succ_cons,List.drop_zero]
  obtain rfl:=hR
  have hset:=HC.out
  clear q0 q1 q2 ql y44 yj4 yt4 yg4
  go_wp2_with (go_at_call 85; (with_reducible refine hset.mono ?_); rintro e w5 ⟨rfl,hT⟩; have H5:=Lib.hid hT; clear hT hset)
  go_ret
  exact ⟨rfl,H5.out⟩
theorem Tb.f64 {i : In} {n : Nat} (h2 : Inv n next i A) {a : R1} (ha : a∈A) : F64 a.1:=by have:=h2.rng a ha; have:=h2.lim; constructor <;> omega
theorem tb_row_yes (h : Tb W tb t next A lab) {a : R1} (ha : a∈A) (hc : t.cols.length≤1000) (h0 : 0<t.cols.length) :
  Calls Tryz.prog 69 #[(Value.pointer (some ⟨tb,0,none⟩)),.int .i64 a.1] W fun e w'=>∃ g c,e=.returned (.tuple #[.slice (some ⟨g,0,none⟩) t.cols.length c,.bool true])∧W.heap.size≤g∧HRow w' W.heap.size 26 3 (.slice (some ⟨g,0,none⟩) t.cols.length c) t.cols.length (cells3 a.2)∧Below W.heap.size W w':=by
 obtain ⟨i,h1,h2⟩:=h
 obtain ⟨p,hp,hpl,he⟩:=h2.pl a ha
 have:=trow_any h1 (Tb.f64 h2 ha) hp (fun k hk=>by rw [h2.lens k hk]; exact hpl) hc h0
 rw [← he] at this
 exact this
theorem Tb.len (h : Tb W tb t next A lab) : ∀ a∈A,a.2.length=t.cols.length:=fun a ha=>by
 obtain ⟨i,h1,h2⟩:=h
 obtain ⟨p,hp,hpl,he⟩:=h2.pl a ha
 rw [he,rowOf_len]
theorem Tb.srt (h : Tb W tb t next A lab) : A.Pairwise (fun a b=>a.1<b.1):=by
 obtain ⟨i,h1,h2⟩:=h
 exact h2.srt
theorem Tb.ok (h : Tb W tb t next A lab) : ∀ a∈A,∀ k (hk : k<t.cols.length) x,a.2[k]?=some x→inC t.cols[k].kd x=true:=fun a ha k hk x hx=>by
 obtain ⟨i,h1,h2⟩:=h
 obtain ⟨p,hp,hpl,he⟩:=h2.pl a ha
 rw [he,rowOf_get _ hk,List.getElem?_eq_getElem (by rw [h2.lens k hk]; exact hpl)] at hx
 cases hx
 exact (h1.col k hk).ok _ (List.getElem_mem _)
theorem tb_get_yes (h : Tb W tb t next A lab) {a : R1} (ha : a∈A) {y : ByteArray} {k : Nat} (hk : k<t.cols.length) (hy : ixC t.cols y=(k : Int)) {u : T3} (hu : a.2[k]?=some u) :
  Calls Tryz.prog 59 #[(Value.pointer (some ⟨tb,0,none⟩)),.int .i64 a.1,.string y] W fun e w'=>e=.returned (.tuple #[(Value.agg #[Value.int .i64 (u.1),Value.int .i64 (u.2.1),Value.string (u.2.2)]),.bool true])∧Below W.heap.size W w':=by
 obtain ⟨i,h1,h2⟩:=h
 obtain ⟨p,hp,hpl,he⟩:=h2.pl a ha
 have hlt : p<(i.cl k).length:=by rw [h2.lens k hk]; exact hpl
 rw [he,rowOf_get _ hk,List.getElem?_eq_getElem hlt] at hu
 exact tget_any h1 (Tb.f64 h2 ha) hp hk hy hlt (by rw [List.getElem?_eq_getElem hlt]; exact hu)
theorem tb_get_no (h : Tb W tb t next A lab) {x : Int} (hx : F64 x) {y : ByteArray} (hno : (∀ a∈A,a.1≠x)∨ixC t.cols y=-1) : Calls Tryz.prog 59 #[(Value.pointer (some ⟨tb,0,none⟩)),.int .i64 x,.string y] W fun e w'=>e=.returned (.tuple #[(Value.agg #[Value.int .i64 (0),Value.int .i64 (0),Value.string (⟨#[]⟩)]),.bool false])∧Below W.heap.size W w':=by
 obtain ⟨i,h1,h2⟩:=h
 exact tget_no h1 hx (hno.imp (h2.no x) id)
theorem tb_next (h : Tb W tb t next A lab) : Calls Tryz.prog 33 #[(Value.pointer (some ⟨tb,0,none⟩))] W fun e w'=>e=.returned (.int .i64 (next : Int))∧w'=W:=by
 obtain ⟨i,h1,h2⟩:=h
 exact tnext_any h1
def idsP (A : List R1) : Int→Bool:=fun x=>A.any fun a=>decide (a.1=x)
theorem idsP_iff {x : Int} : idsP A x=true↔∃ a∈A,a.1=x:=ids_any
theorem Vm.congr {w : World} {v : Value} {P Q : Int→Bool} (h : Vm w v P) (e : ∀ x,P x=Q x) : Vm w v Q:=by
 obtain ⟨l,h1,h2,h3⟩:=h
 exact ⟨l,h1,h2,fun x=>by rw [← e x]; exact h3 x⟩
theorem tb_live (h : Tb W tb t next A lab) : Calls Tryz.prog 57 #[(Value.pointer (some ⟨tb,0,none⟩))] W (IsV (idsP A) W):=by
 obtain ⟨i,h1,h2⟩:=h
 refine (tlive_any h1 (by have:=h2.lat; omega)).mono ?_
 rintro e w' ⟨p,n,c,he,hv,hb⟩
 refine ⟨p,n,c,he,hv.congr (fun x=>?_),hb⟩
 have hlim:=h2.lim
 rw [Bool.eq_iff_iff,idsP_iff]
 have hg:=h2.gone x
 unfold notP goneP ofP
 simp only [Bool.and_eq_true,decide_eq_true_eq,Bool.not_eq_true',Bool.or_eq_false_iff,Bool.and_eq_false_iff,decide_eq_false_iff_not]
 constructor
 ·rintro ⟨⟨a1,a2,a3⟩,b1,b2⟩
  apply Classical.byContradiction
  intro hno
  rcases hg.2 ⟨a1,a2,fun a ha he=>hno ⟨a,ha,he⟩⟩ with g1 | g1
  ·rw [b1] at g1; cases g1
  ·rcases b2 with b2 | b2
   ·exact b2 g1
   ·unfold inB at b2
    simp at b2
    omega
 ·rintro ⟨a,ha,rfl⟩
  obtain ⟨r1,r2⟩:=h2.rng a ha
  refine ⟨⟨r1,r2,by omega⟩,?_,.inl (fun hl=>(hg.1 (.inr hl)).2.2 a ha rfl)⟩
  cases hG : i.G a.1
  ·rfl
  ·exact absurd rfl ((hg.1 (.inl hG)).2.2 a ha)
theorem tb_words (h : Tb W tb t next A lab) {x : ByteArray} {k : Nat} (hk : k<t.cols.length) (hx : ixC t.cols x=(k : Int)) (m : List (K 12)) (hm : m.Nodup) (hs : ∀ s,s∈m↔∃ a∈A,∃ y,a.2[k]?=some y∧y.1=2∧wd y.2.2=s) : Calls Tryz.prog 110 #[(Value.pointer (some ⟨tb,0,none⟩)),.string x] W fun e w'=>e=.returned (.int .i64 (m.length : Int))∧Below W.heap.size W w':=by
 obtain ⟨i,h1,h2⟩:=h
 exact twords_any h1 hk hx m hm (fun s=>(hs s).trans (h2.texts hk s).symm)
end
end Go.Proofs.YtjepplacnaoomaaGreat
