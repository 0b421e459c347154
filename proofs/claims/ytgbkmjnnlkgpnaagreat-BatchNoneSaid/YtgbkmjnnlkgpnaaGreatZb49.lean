import Derived.Test.YtgbkmjnnlkgpnaaGreatZb47
import Derived.Test.YtgbkmjnnlkgpnaaGreatZb28
set_option maxHeartbeats 8000000
set_option maxRecDepth 100000
namespace Go.Proofs.YtgbkmjnnlkgpnaaGreat
open Go Go.RowKit Go.Proofs Co Co.S Par
structure JR (W:World) (A:List R1) (E:Nat->Value) (l:Nat->Bool) (vs:Nat->Value) (w:World):Prop where
 bel:Below W.heap.size W w
 ev:∀ j,j≠4->l j=true->vs j=E j
 v4:l 4=true->∃ p n c,vs 4=.agg #[.slice p n c]/\Vm w (.slice p n c) (idsP A)
section
variable {W w w':World} {A:List R1} {E:Nat->Value} {l:Nat->Bool} {vs:Nat->Value}
theorem JR.up (h:JR W A E l vs w) (i:Nat) (hi:i≠4):JR W A E (upB l i) (upV vs i (E i)) w:=by
 refine⟨h.bel,fun j hj hl=>?_,fun hl=>?_⟩
 ·by_cases e:j=i
  ·subst e;rw[upV_eq]
  ·rw[upV_ne e];rw[upB_ne e] at hl;exact h.ev j hj hl
 ·rw[upB_ne (fun e=>hi e.symm)] at hl;rw[upV_ne (fun e=>hi e.symm)];exact h.v4 hl
theorem JR.on (h:JR W A E l vs w) (hb:Below w.heap.size w w'):JR W A E l vs w':=by
 refine⟨below_on h.bel hb,h.ev,fun hl=>?_⟩;obtain⟨p,n,c,e,hv⟩:=h.v4 hl;exact⟨p,n,c,e,hv.later hb⟩
theorem JR.live (h:JR W A E l vs w) {p:Option Addr} {n c:Nat} (hv:Vm w' (.slice p n c) (idsP A)) (hb:Below w.heap.size w w'):JR W A E (upB l 4) (upV vs 4 (.agg #[.slice p n c])) w':=by
 refine⟨below_on h.bel hb,fun j hj hl=>?_,fun _=>⟨p,n,c,upV_eq,hv⟩⟩;rw[upV_ne hj];rw[upB_ne hj] at hl;exact h.ev j hj hl
theorem ids_count {v:Value} (hv:Vm w v (idsP A)) (hs:A.Pairwise (fun a b=>a.1<b.1)):Calls Tryz.prog 73 #[.agg #[v]] w fun e w2=>e=.returned (.int .i64 (A.length:Int))/\Below w.heap.size w w2:=by
 have hc:=vcount hv;obtain⟨l,_,k1,k2⟩:=hv;rw[<- k2.els k1,ids_els k1 k2 hs,List.length_map] at hc;exact hc
end
theorem rows_any {W0:World} {d b:Nat} {ts:List T} {st:List DT} {tt:List RT} {O Ob:Nat->Nat} {i:NI} (hD:Dd W0 d ts st O) (hN:DbN W0 b ts tt i Ob) {t:Nat} (ht:t<ts.length) (ht':t<st.length) (htt:t<tt.length) (he:st[t].2=keyN tt[t]) (hsz:ts[t].nm.size<=maxLen) (h0:0<ts[t].cols.length) (hc1:ts[t].cols.length<=1000) (hAl:tt[t].A.length<=100000) (hm8:ts.length<=8) :
  Calls Tryz.prog 45 #[(Value.pointer (some ⟨d,0,none⟩)),(Value.pointer (some ⟨b,0,none⟩)),.int .i64 (t:Int),.string ts[t].nm] W0 fun e w'=>e=.returned (.bool true)/\Below W0.heap.size W0 w':=by
 have htab:=hD.table ht hsz ht';obtain⟨lab,hT0,_⟩:=hD.tab t ht ht';have hy:tt[t]?=some tt[t]:=List.getElem?_eq_getElem htt;have hx1:=hN.ok ht hy;obtain⟨⟨gs,cs,go,co,gn,cn,pc,kc',pd,kd'⟩,e2,_,_,_,_,_,hR⟩:=hN.reads ht hy;obtain⟨y,hyy⟩:∃ y,tt[t]=y:=⟨_,rfl⟩;obtain⟨⟨tb,nx,A⟩,hst⟩:∃ s,st[t]=s:=⟨_,rfl⟩;rw[hyy] at he hx1 hR hAl;rw[hst] at he hT0 htab;dsimp only at he hT0 htab;obtain⟨rfl,rfl⟩:nx=y.nx/\A=y.A:=(by cases he;exact⟨rfl,rfl⟩);obtain⟨mt',hmt⟩:∃ m,ts.length=m:=⟨_,rfl⟩;have hti:(t:Int)<(mt':Int):=(by omega);have htn:t<mt':=(by omega);have hm8i:(mt':Int)<=8:=(by omega);obtain⟨A,hA⟩:∃ A,y.A=A:=⟨_,rfl⟩;obtain⟨nx,hnx⟩:∃ n,y.nx=n:=⟨_,rfl⟩;rw[hA] at hAl;rw[hA,hnx] at hT0;have hlen:=hx1.len;rw[hA] at hlen;obtain⟨nm,hnm⟩:∃ k,ts[t].nm=k:=⟨_,rfl⟩;obtain⟨nc,hnc⟩:∃ n,ts[t].cols.length=n:=⟨_,rfl⟩;rw[hnc] at hlen;obtain⟨na,hna⟩:∃ n,A.length=n:=⟨_,rfl⟩;have hna2:(na:Int)<=100000:=(by omega);obtain⟨pr,cr,hrv,_,_⟩:=hx1.rows.isslice;rw[hA,hna] at hrv
 have HF:Hid (∀ w,Below W0.heap.size W0 w->True/\w.cell? ⟨b,1,none⟩=some (.slice (some ⟨go,0,none⟩) mt' co)/\w.cell? ⟨b,2,none⟩=some (.slice (some ⟨gn,0,none⟩) mt' cn)/\w.cell? ⟨go,t,none⟩=some (.slice pr na cr)/\w.cell? ⟨gn,t,none⟩=some (.int .i64 (nx:Int))/\True/\b<w.heap.size/\go<w.heap.size/\gn<w.heap.size):=Lib.hid (fun w hb=>by
  have k:=hR w hb;rw[<- hmt,<- hrv,<- hnx];exact⟨trivial,k.b1,k.b2,k.o0,k.n0,trivial,k.bl,k.ol,k.nl⟩)
 have HROW:Hid (∀ k (hk:k<A.length),∃ gr gv cv,pr=some ⟨gr,0,none⟩/\∀ w,Below W0.heap.size W0 w->w.cell? ⟨gr,k*2,none⟩=some (.int .i64 A[k].1)/\w.cell? ⟨gr,k*2+1,none⟩=some (.slice (some ⟨gv,0,none⟩) nc cv)/\HRow w 0 42 3 (.slice (some ⟨gv,0,none⟩) nc cv) nc (cells3 A[k].2)/\gr<w.heap.size):=Lib.hid (fun k hk=>by
  subst hA;have hkv:k<y.vs.length:=(by rw[hx1.n];exact hk);have hvr:=hx1.vals k hk hkv;rw[hlen _ (List.getElem_mem hk)] at hvr;obtain⟨gv,cv,r5,_,_⟩:=hvr.slice (by omega);rw[r5] at hvr;obtain⟨gr,cr',r1,_,_⟩:=hx1.rows.slice (by omega);have hrr:=hx1.rows;rw[r1] at hrr;rw[hrv,hna] at r1;cases r1;obtain⟨q1,q2⟩:=cellsR_at hx1.n hk;rw[r5] at q2;refine⟨gr,gv,cv,rfl,fun w hb=>?_⟩;have hrw:=hrr.later hb;exact⟨hrw.cell q1,hrw.cell q2,hvr.later hb,(HRow.lt hrw gr rfl).2⟩)
 have HL:Hid (∀ w,Below W0.heap.size W0 w->Calls Tryz.prog 72 #[(Value.pointer (some ⟨tb,0,none⟩))] w (IsV (idsP A) w)):=Lib.hid (fun w hb=>tb_live (hT0.later hb));have HNX:Hid (∀ w,Below W0.heap.size W0 w->Calls Tryz.prog 74 #[(Value.pointer (some ⟨tb,0,none⟩))] w fun e w'=>e=.returned (.int .i64 (nx:Int))/\w'=w):=Lib.hid (fun w hb=>tb_next (hT0.later hb))
 have HCT:Hid (∀ w (p:Option Addr) (n c:Nat),Vm w (.slice p n c) (idsP A)->Calls Tryz.prog 73 #[.agg #[.slice p n c]] w fun e w2=>e=.returned (.int .i64 (na:Int))/\Below w.heap.size w w2):=Lib.hid (fun w p n c hv=>by
  have:=ids_count hv hT0.srt
  rw[hna] at this;exact this)
 have HGR:Hid (∀ w,Below W0.heap.size W0 w->∀ k (hk:k<A.length),Calls Tryz.prog 75 #[(Value.pointer (some ⟨tb,0,none⟩)),.int .i64 A[k].1] w fun e w'=>∃ g c,e=.returned (.tuple #[.slice (some ⟨g,0,none⟩) nc c,.bool true])/\HRow w' w.heap.size 42 3 (.slice (some ⟨g,0,none⟩) nc c) nc (cells3 A[k].2)/\Below w.heap.size w w'):=Lib.hid (fun w hb k hk=>by
  refine (tb_row_yes (hT0.later hb) (List.getElem_mem hk) hc1 h0).mono ?_;rintro e w' ⟨g,c,rfl,_,hr,hb'⟩;rw[hnc] at hr ⊢;exact⟨g,c,rfl,hr,hb'⟩)
 have HN:=Lib.hid (And.intro hna hlen);rw[hnm] at htab ⊢;clear hD hT0 hN hy hx1 e2 hR hyy hst hA hnx he hsz h0 hc1 hAl hrv hlen hnm hnc hna hmt hm8 ht ht' htt;go_enter Tryz.func45,Tryz.ntmps45;go_upto_region 2 with (go_at_call 29;(with_reducible refine htab.mono ?_);rintro e w2 ⟨rfl,hw⟩;subst w2;clear htab);refine Par.wp_region_par4 28 (JR W0 A (fun idx=>[(Value.pointer (some ⟨tb,0,none⟩)),.bool false,.bool false,(Value.pointer (some ⟨tb,0,none⟩)),undef,.int .i64 (na:Int),(Value.pointer (some ⟨b,0,none⟩)),(Value.pointer (some ⟨b,0,none⟩)),(Value.pointer (some ⟨b,1,none⟩)),.slice (some ⟨go,0,none⟩) mt' co,.int .i64 (t:Int),(Value.pointer (some ⟨go,t,none⟩)),.slice pr na cr,.int .i64 (na:Int),.bool false,.bool false,.bool false,(Value.pointer (some ⟨tb,0,none⟩)),.int .i64 (nx:Int),(Value.pointer (some ⟨b,0,none⟩)),(Value.pointer (some ⟨b,0,none⟩)),(Value.pointer (some ⟨b,2,none⟩)),.slice (some ⟨gn,0,none⟩) mt' cn,.int .i64 (t:Int),(Value.pointer (some ⟨gn,t,none⟩)),.int .i64 (nx:Int),.bool false,.bool false].getD idx undef)) ?A ?hm ?hB ?hA ?hJ ?hop ?hT
 case hm=>kernel_rfl
 case hB=>kernel_rfl
 case hA =>
  intro vs;simp only[Par.putA,Par.dstAt,Act.put,List.getElem?_toArray,List.getElem?_cons_zero,List.getElem?_cons_succ,Option.bind_some,List.setIfInBounds_toArray,List.set_cons_zero,List.set_cons_succ];rfl
 case hJ =>
  intro vs;exact⟨below_drew W0,fun _ _ h=>(by cases h),fun h=>(by cases h)⟩
 case hop =>
  simp only[List.take_succ_cons,List.take_zero,Par.GiveAllK,and_true];and_intros<;>intro l vs w hJ hl hd hcl
  ·have HJ:=Lib.hid hJ;clear hJ hd hcl;simp only[Par.GivesW];go_simp;all_goals exact HJ.out.up 0 (by decide)
  ·have HJ:=Lib.hid hJ;have d0:vs 0=(Value.pointer (some ⟨tb,0,none⟩)):=hJ.ev 0 (by decide) (hd 0 (by kernel_rfl));clear hJ hd hcl;simp only[Par.GivesW,d0];go_simp;all_goals exact HJ.out.up 1 (by decide)
  ·have HJ:=Lib.hid hJ;have d1:vs 1=.bool false:=hJ.ev 1 (by decide) (hd 1 (by kernel_rfl));clear hJ hd hcl;simp only[Par.GivesW,d1];go_simp;all_goals exact HJ.out.up 2 (by decide)
  ·have HJ:=Lib.hid hJ;have d2:vs 2=.bool false:=hJ.ev 2 (by decide) (hd 2 (by kernel_rfl));clear hJ hd hcl;simp only[Par.GivesW,d2];go_simp;all_goals exact HJ.out.up 3 (by decide)
  ·have HJ:=Lib.hid hJ;have d3:vs 3=(Value.pointer (some ⟨tb,0,none⟩)):=hJ.ev 3 (by decide) (hd 3 (by kernel_rfl));have d2:vs 2=.bool false:=hJ.ev 2 (by decide) (hd 2 (by kernel_rfl));have hc:=HL.out w hJ.bel;clear hJ hd hcl;simp only[Par.GivesW,d3,d2];go_simp;refine hc.mono ?_;rintro e y2 ⟨p9,n9,c9,rfl,hc9,hb9⟩;exact⟨_,rfl,HJ.out.live hc9 hb9⟩
  ·have HJ:=Lib.hid hJ;have d2:vs 2=.bool false:=hJ.ev 2 (by decide) (hd 2 (by kernel_rfl));obtain⟨pp,nn,cc,d4,hc⟩:=hJ.v4 (hd 4 (by kernel_rfl));clear hJ hd hcl;simp only[Par.GivesW,d2,d4];go_simp;refine (HCT.out w _ _ _ hc).mono ?_;rintro e y2 ⟨rfl,hb9⟩;exact⟨_,rfl,(HJ.out.on hb9).up 5 (by decide)⟩
  ·have HJ:=Lib.hid hJ;have d2:vs 2=.bool false:=hJ.ev 2 (by decide) (hd 2 (by kernel_rfl));clear hJ hd hcl;simp only[Par.GivesW,d2];go_simp;all_goals exact HJ.out.up 6 (by decide)
  ·have HJ:=Lib.hid hJ;have d6:vs 6=(Value.pointer (some ⟨b,0,none⟩)):=hJ.ev 6 (by decide) (hd 6 (by kernel_rfl));have d2:vs 2=.bool false:=hJ.ev 2 (by decide) (hd 2 (by kernel_rfl));have zl:=(HF.out w hJ.bel).2.2.2.2.2.2.1;clear hJ hd hcl;simp only[Par.GivesW,d6,d2];go_simp;all_goals exact HJ.out.up 7 (by decide)
  ·have HJ:=Lib.hid hJ;have d7:vs 7=(Value.pointer (some ⟨b,0,none⟩)):=hJ.ev 7 (by decide) (hd 7 (by kernel_rfl));have d2:vs 2=.bool false:=hJ.ev 2 (by decide) (hd 2 (by kernel_rfl));have zl:=(HF.out w hJ.bel).2.2.2.2.2.2.1;clear hJ hd hcl;simp only[Par.GivesW,d7,d2];go_simp;all_goals exact HJ.out.up 8 (by decide)
  ·have HJ:=Lib.hid hJ;have d8:vs 8=(Value.pointer (some ⟨b,1,none⟩)):=hJ.ev 8 (by decide) (hd 8 (by kernel_rfl));have d2:vs 2=.bool false:=hJ.ev 2 (by decide) (hd 2 (by kernel_rfl));have k0:=(HF.out w hJ.bel).2.1;clear hJ hd hcl;simp only[Par.GivesW,d8,d2];go_simp;all_goals exact HJ.out.up 9 (by decide)
  ·have HJ:=Lib.hid hJ;have d2:vs 2=.bool false:=hJ.ev 2 (by decide) (hd 2 (by kernel_rfl));clear hJ hd hcl;simp only[Par.GivesW,d2];go_simp;all_goals exact HJ.out.up 10 (by decide)
  ·have HJ:=Lib.hid hJ;have d9:vs 9=.slice (some ⟨go,0,none⟩) mt' co:=hJ.ev 9 (by decide) (hd 9 (by kernel_rfl));have d10:vs 10=.int .i64 (t:Int):=hJ.ev 10 (by decide) (hd 10 (by kernel_rfl));have d2:vs 2=.bool false:=hJ.ev 2 (by decide) (hd 2 (by kernel_rfl));clear hJ hd hcl;simp only[Par.GivesW,d9,d10,d2];go_simp;all_goals exact HJ.out.up 11 (by decide)
  ·have HJ:=Lib.hid hJ;have d11:vs 11=(Value.pointer (some ⟨go,t,none⟩)):=hJ.ev 11 (by decide) (hd 11 (by kernel_rfl));have d2:vs 2=.bool false:=hJ.ev 2 (by decide) (hd 2 (by kernel_rfl));have k0:=(HF.out w hJ.bel).2.2.2.1;have zl:=(HF.out w hJ.bel).2.2.2.2.2.2.2.1;clear hJ hd hcl;simp only[Par.GivesW,d11,d2];go_simp;all_goals exact HJ.out.up 12 (by decide)
  ·have HJ:=Lib.hid hJ;have d12:vs 12=.slice pr na cr:=hJ.ev 12 (by decide) (hd 12 (by kernel_rfl));have d2:vs 2=.bool false:=hJ.ev 2 (by decide) (hd 2 (by kernel_rfl));clear hJ hd hcl;simp only[Par.GivesW,d12,d2];go_simp;all_goals exact HJ.out.up 13 (by decide)
  ·have HJ:=Lib.hid hJ;have d5:vs 5=.int .i64 (na:Int):=hJ.ev 5 (by decide) (hd 5 (by kernel_rfl));have d13:vs 13=.int .i64 (na:Int):=hJ.ev 13 (by decide) (hd 13 (by kernel_rfl));have d2:vs 2=.bool false:=hJ.ev 2 (by decide) (hd 2 (by kernel_rfl));clear hJ hd hcl;simp only[Par.GivesW,d5,d13,d2];go_simp;all_goals exact HJ.out.up 14 (by decide)
  ·have HJ:=Lib.hid hJ;have d2:vs 2=.bool false:=hJ.ev 2 (by decide) (hd 2 (by kernel_rfl));have d14:vs 14=.bool false:=hJ.ev 14 (by decide) (hd 14 (by kernel_rfl));clear hJ hd hcl;simp only[Par.GivesW,d2,d14];go_simp;all_goals exact HJ.out.up 15 (by decide)
  ·have HJ:=Lib.hid hJ;have d15:vs 15=.bool false:=hJ.ev 15 (by decide) (hd 15 (by kernel_rfl));clear hJ hd hcl;simp only[Par.GivesW,d15];go_simp;all_goals exact HJ.out.up 16 (by decide)
  ·have HJ:=Lib.hid hJ;have d16:vs 16=.bool false:=hJ.ev 16 (by decide) (hd 16 (by kernel_rfl));clear hJ hd hcl;simp only[Par.GivesW,d16];go_simp;all_goals exact HJ.out.up 17 (by decide)
  ·have HJ:=Lib.hid hJ;have d17:vs 17=(Value.pointer (some ⟨tb,0,none⟩)):=hJ.ev 17 (by decide) (hd 17 (by kernel_rfl));have d16:vs 16=.bool false:=hJ.ev 16 (by decide) (hd 16 (by kernel_rfl));have hc:=HNX.out w hJ.bel;clear hJ hd hcl;simp only[Par.GivesW,d17,d16];go_simp;refine hc.mono ?_;rintro e y2 ⟨rfl,rfl⟩;exact⟨_,rfl,HJ.out.up 18 (by decide)⟩
  ·have HJ:=Lib.hid hJ;have d16:vs 16=.bool false:=hJ.ev 16 (by decide) (hd 16 (by kernel_rfl));clear hJ hd hcl;simp only[Par.GivesW,d16];go_simp;all_goals exact HJ.out.up 19 (by decide)
  ·have HJ:=Lib.hid hJ;have d19:vs 19=(Value.pointer (some ⟨b,0,none⟩)):=hJ.ev 19 (by decide) (hd 19 (by kernel_rfl));have d16:vs 16=.bool false:=hJ.ev 16 (by decide) (hd 16 (by kernel_rfl));have zl:=(HF.out w hJ.bel).2.2.2.2.2.2.1;clear hJ hd hcl;simp only[Par.GivesW,d19,d16];go_simp;all_goals exact HJ.out.up 20 (by decide)
  ·have HJ:=Lib.hid hJ;have d20:vs 20=(Value.pointer (some ⟨b,0,none⟩)):=hJ.ev 20 (by decide) (hd 20 (by kernel_rfl));have d16:vs 16=.bool false:=hJ.ev 16 (by decide) (hd 16 (by kernel_rfl));have zl:=(HF.out w hJ.bel).2.2.2.2.2.2.1;clear hJ hd hcl;simp only[Par.GivesW,d20,d16];go_simp;all_goals exact HJ.out.up 21 (by decide)
  ·have HJ:=Lib.hid hJ;have d21:vs 21=(Value.pointer (some ⟨b,2,none⟩)):=hJ.ev 21 (by decide) (hd 21 (by kernel_rfl));have d16:vs 16=.bool false:=hJ.ev 16 (by decide) (hd 16 (by kernel_rfl));have k0:=(HF.out w hJ.bel).2.2.1;clear hJ hd hcl;simp only[Par.GivesW,d21,d16];go_simp;all_goals exact HJ.out.up 22 (by decide)
  ·have HJ:=Lib.hid hJ;have d16:vs 16=.bool false:=hJ.ev 16 (by decide) (hd 16 (by kernel_rfl));clear hJ hd hcl;simp only[Par.GivesW,d16];go_simp;all_goals exact HJ.out.up 23 (by decide)
  ·have HJ:=Lib.hid hJ;have d22:vs 22=.slice (some ⟨gn,0,none⟩) mt' cn:=hJ.ev 22 (by decide) (hd 22 (by kernel_rfl));have d23:vs 23=.int .i64 (t:Int):=hJ.ev 23 (by decide) (hd 23 (by kernel_rfl));have d16:vs 16=.bool false:=hJ.ev 16 (by decide) (hd 16 (by kernel_rfl));clear hJ hd hcl;simp only[Par.GivesW,d22,d23,d16];go_simp;all_goals exact HJ.out.up 24 (by decide)
  ·have HJ:=Lib.hid hJ;have d24:vs 24=(Value.pointer (some ⟨gn,t,none⟩)):=hJ.ev 24 (by decide) (hd 24 (by kernel_rfl));have d16:vs 16=.bool false:=hJ.ev 16 (by decide) (hd 16 (by kernel_rfl));have k0:=(HF.out w hJ.bel).2.2.2.2.1;have zl:=(HF.out w hJ.bel).2.2.2.2.2.2.2.2;clear hJ hd hcl;simp only[Par.GivesW,d24,d16];go_simp;all_goals exact HJ.out.up 25 (by decide)
  ·have HJ:=Lib.hid hJ;have d18:vs 18=.int .i64 (nx:Int):=hJ.ev 18 (by decide) (hd 18 (by kernel_rfl));have d25:vs 25=.int .i64 (nx:Int):=hJ.ev 25 (by decide) (hd 25 (by kernel_rfl));have d16:vs 16=.bool false:=hJ.ev 16 (by decide) (hd 16 (by kernel_rfl));clear hJ hd hcl;simp only[Par.GivesW,d18,d25,d16];go_simp;all_goals exact HJ.out.up 26 (by decide)
  ·have HJ:=Lib.hid hJ;have d16:vs 16=.bool false:=hJ.ev 16 (by decide) (hd 16 (by kernel_rfl));have d26:vs 26=.bool false:=hJ.ev 26 (by decide) (hd 26 (by kernel_rfl));clear hJ hd hcl;simp only[Par.GivesW,d16,d26];go_simp;all_goals exact HJ.out.up 27 (by decide)
 case hT =>
  intro l vs w1 hl hJ;simp only[List.drop_succ_cons,List.drop_nil];have d27:vs 27=.bool false:=hJ.ev 27 (by decide) (hl 27 (by decide));simp only[d27];have HB1:=Lib.hid hJ.bel;clear hJ hl d27;go_wp2_with fail;go_loopg [10] (na+1) (fun gh jv w=>∃ (j:Nat),jv=.int .i64 (j:Int)/\j<=na/\na+1<=j+gh/\Below W0.heap.size W0 w)
  case atStart=>exact⟨0,rfl,Nat.zero_le _,by omega,HB1.out⟩
  case round =>
   obtain⟨j,rfl,hj,hg,hB⟩:=hrel;obtain⟨_,x1,_,x2,_,_,xl,xo,_⟩:=HF.out wr hB;by_cases hlt:j<na
   ·have hji:(j:Int)<(na:Int):=(by omega);have hjA:j<A.length:=(by rw[HN.out.1];exact hlt);obtain⟨gr,gv,cv,rfl,hrow⟩:=HROW.out j hjA;obtain⟨q1,q2,q3,q4⟩:=hrow wr hB;have hgr:=HGR.out wr hB j hjA;obtain⟨aj,haj⟩:∃ a,A[j].1=a:=⟨_,rfl⟩;have hlj:A[j].2.length=nc:=HN.out.2 _ (List.getElem_mem hjA)
    have HQ:Hid (∀ w,Below W0.heap.size W0 w->w.cell? ⟨gr,j*2+1,none⟩=some (.slice (some ⟨gv,0,none⟩) nc cv)/\gr<w.heap.size/\InV (fun q=>(Value.slice (some ⟨gv,0,none⟩) nc cv).ownBlock=some q) w (.slice (some ⟨gv,0,none⟩) nc cv) A[j].2):=Lib.hid (fun w hb=>by
     obtain⟨_,r2,r3,r4⟩:=hrow w hb;exact⟨r2,r4,InV.of_row r3 hlj⟩)
    have HLJ:=Lib.hid hlj;have HB:=Lib.hid hB;rw[haj] at q1 hgr;clear hrow q2 q3 hlj haj hB;go_upto_region 8 with (go_at_call 75;(with_reducible refine hgr.mono ?_);rintro e w2 ⟨g2,c2,rfl,hr2,hb2⟩;have H2:=Lib.hid (And.intro hr2 (below_on HB.out hb2));clear hgr hr2 hb2);clear q1 q4 x1 x2 xl xo;obtain⟨_,x1,_,x2,_,_,xl,xo,_⟩:=HF.out w2 H2.out.2;obtain⟨r2,r4,r5⟩:=HQ.out w2 H2.out.2;have hcmp:=rrow_same (InV.of_row H2.out.1 HLJ.out) r5;clear r5;go_wp2_with (go_at_call 76;(with_reducible refine hcmp.mono ?_);rintro e w3 ⟨rfl,hb3⟩;have H3:=Lib.hid (below_on H2.out.2 hb3);clear hcmp hb3);go_roundg (na-j)
    case measure=>omega
    case rel=>exact⟨j+1,rfl,by omega,by omega,H3.out⟩
   ·obtain rfl:j=na:=(by omega);have HB:=Lib.hid hB;clear hB;go_wp2_with fail;go_ret;exact⟨rfl,HB.out⟩
