import Derived.Test.YthlccadnojnkaaaGreatZk40
import Derived.Test.YthlccadnojnkaaaGreatZk24
import Derived.Test.YthlccadnojnkaaaGreatZk41
import Derived.Test.YthlccadnojnkaaaGreatZk21
set_option maxHeartbeats 8000000
set_option maxRecDepth 100000
namespace Go.Proofs.YthlccadnojnkaaaGreat
open Go Go.RowKit Go.Proofs Co Co.S Par
structure JR (W:World) (A:List R1) (E:Nat->Value) (l:Nat->Bool) (vs:Nat->Value) (w:World):Prop where
 bel:Below W.heap.size W w
 ev:∀ j,j≠4->l j=true->vs j=E j
 v4:l 4=true->∃ p n c,vs 4=.agg #[.slice p n c]/\Vm w (.slice p n c) (idsP A)
section
variable {W w w':World} {A:List R1} {E:Nat->Value} {l:Nat->Bool} {vs:Nat->Value}
theorem JR.up (h:JR W A E l vs w) (i:Nat) (hi:i≠4):JR W A E (upB l i) (upV vs i (E i)) w:=by
 refine⟨h.bel,fun j hj hl=>?_,fun hl=>?_⟩
 ·by_cases e:j=i
  ·subst e;rw[aS]
  rw[aJ e];rw[aI e] at hl;exact h.ev j hj hl
 rw[aI (fun e=>hi e.symm)] at hl;rw[aJ (fun e=>hi e.symm)];exact h.v4 hl
theorem JR.on (h:JR W A E l vs w) (hb:Below w.heap.size w w'):JR W A E l vs w':=by
 refine⟨aB h.bel hb,h.ev,fun hl=>?_⟩;obtain⟨p,n,c,e,hv⟩:=h.v4 hl;exact⟨p,n,c,e,hv.later hb⟩
theorem JR.live (h:JR W A E l vs w) {p:Option Addr} {n c:Nat} (hv:Vm w' (.slice p n c) (idsP A)) (hb:Below w.heap.size w w'):JR W A E (upB l 4) (upV vs 4 (.agg #[.slice p n c])) w':=by
 refine⟨aB h.bel hb,fun j hj hl=>?_,fun _=>⟨p,n,c,aS,hv⟩⟩;rw[aJ hj];rw[aI hj] at hl;exact h.ev j hj hl
theorem kL {v:Value} (hv:Vm w v (idsP A)) (hs:A.Pairwise (fun a b=>a.1<b.1)):Calls Tryz.prog 53 #[.agg #[v]] w fun e w2=>e=.returned (.int .i64 (A.length:Int))/\Below w.heap.size w w2:=by
 have hc:=aCC hv;obtain⟨l,_,k1,k2⟩:=hv;rw[<- k2.els k1,jG k1 k2 hs,List.length_map] at hc;exact hc
end
theorem aDH {W0:World} {d b:Nat} {ts:List T} {st:List DT} {tt:List RT} {O Ob:Nat->Nat} {i:NI} (hD:Dd W0 d ts st O) (hN:DbN W0 b ts tt i Ob) {t:Nat} (ht:t<ts.length) (ht':t<st.length) (htt:t<tt.length) (he:st[t].2=keyN tt[t]) (hsz:ts[t].nm.size<=maxLen) (h0:0<ts[t].cols.length) (hc1:ts[t].cols.length<=1000) (hAl:tt[t].A.length<=100000) (hm8:ts.length<=8) :
  Calls Tryz.prog 59 #[.pointer (some ⟨d,0,none⟩),.pointer (some ⟨b,0,none⟩),.int .i64 (t:Int),.string ts[t].nm] W0 fun e w'=>e=.returned (.bool true)/\Below W0.heap.size W0 w':=by
 have htab:=hD.table ht hsz ht';obtain⟨lab,hT0,_⟩:=hD.tab t ht ht';have hy:tt[t]?=some tt[t]:=List.getElem?_eq_getElem htt;have hx1:=hN.ok ht hy;obtain⟨⟨gs,cs,go,co,gn,cn,pc,kc',pd,kd'⟩,e2,_,_,_,_,_,hR⟩:=hN.reads ht hy;obtain⟨y,hyy⟩:∃ y,tt[t]=y:=⟨_,rfl⟩;obtain⟨⟨tb,nx,A⟩,hst⟩:∃ s,st[t]=s:=⟨_,rfl⟩;rw[hyy] at he hx1 hR hAl;rw[hst] at he hT0 htab;dsimp only at he hT0 htab;obtain⟨rfl,rfl⟩:nx=y.nx/\A=y.A:=(by cases he;exact⟨rfl,rfl⟩);obtain⟨mt',hmt⟩:∃ m,ts.length=m:=⟨_,rfl⟩;have hti:(t:Int)<(mt':Int):=(by omega);have htn:t<mt':=(by omega);have hm8i:(mt':Int)<=8:=(by omega);obtain⟨A,hA⟩:∃ A,y.A=A:=⟨_,rfl⟩;obtain⟨nx,hnx⟩:∃ n,y.nx=n:=⟨_,rfl⟩;rw[hA] at hAl;rw[hA,hnx] at hT0;have hlen:=hx1.len;rw[hA] at hlen;obtain⟨nm,hnm⟩:∃ k,ts[t].nm=k:=⟨_,rfl⟩;obtain⟨nc,hnc⟩:∃ n,ts[t].cols.length=n:=⟨_,rfl⟩;rw[hnc] at hlen;obtain⟨na,hna⟩:∃ n,A.length=n:=⟨_,rfl⟩;have hna2:(na:Int)<=100000:=(by omega);obtain⟨pr,cr,hrv,_,_⟩:=hx1.rows.isslice;rw[hA,hna] at hrv
 have HF:Hid (∀ w,Below W0.heap.size W0 w->True/\w.cell? ⟨b,1,none⟩=some (.slice (some ⟨go,0,none⟩) mt' co)/\w.cell? ⟨b,2,none⟩=some (.slice (some ⟨gn,0,none⟩) mt' cn)/\w.cell? ⟨go,t,none⟩=some (.slice pr na cr)/\w.cell? ⟨gn,t,none⟩=some (.int .i64 (nx:Int))/\True/\b<w.heap.size/\go<w.heap.size/\gn<w.heap.size):=qAq (fun w hb=>by
  have k:=hR w hb;rw[<- hmt,<- hrv,<- hnx];exact⟨trivial,k.b1,k.b2,k.o0,k.n0,trivial,k.bl,k.ol,k.nl⟩)
 have HROW:Hid (∀ k (hk:k<A.length),∃ gr gv cv,pr=some ⟨gr,0,none⟩/\∀ w,Below W0.heap.size W0 w->w.cell? ⟨gr,k*2,none⟩=some (.int .i64 A[k].1)/\w.cell? ⟨gr,k*2+1,none⟩=some (.slice (some ⟨gv,0,none⟩) nc cv)/\HRow w 0 32 3 (.slice (some ⟨gv,0,none⟩) nc cv) nc (cells3 A[k].2)/\gr<w.heap.size):=qAq (fun k hk=>by
  subst hA;have hkv:k<y.vs.length:=(by rw[hx1.n];exact hk);have hvr:=hx1.vals k hk hkv;rw[hlen _ (List.getElem_mem hk)] at hvr;obtain⟨gv,cv,r5,_,_⟩:=hvr.slice (by omega);rw[r5] at hvr;obtain⟨gr,cr',r1,_,_⟩:=hx1.rows.slice (by omega);have hrr:=hx1.rows;rw[r1] at hrr;rw[hrv,hna] at r1;cases r1;obtain⟨q1,q2⟩:=dI hx1.n hk;rw[r5] at q2;refine⟨gr,gv,cv,rfl,fun w hb=>?_⟩;have hrw:=hrr.later hb;exact⟨hrw.cell q1,hrw.cell q2,hvr.later hb,(HRow.lt hrw gr rfl).2⟩)
 have HL:Hid (∀ w,Below W0.heap.size W0 w->Calls Tryz.prog 52 #[.pointer (some ⟨tb,0,none⟩)] w (IsV (idsP A) w)):=qAq (fun w hb=>fD (hT0.later hb));have HNX:Hid (∀ w,Below W0.heap.size W0 w->Calls Tryz.prog 30 #[.pointer (some ⟨tb,0,none⟩)] w fun e w'=>e=.returned (.int .i64 (nx:Int))/\w'=w):=qAq (fun w hb=>qZ (hT0.later hb))
 have HCT:Hid (∀ w (p:Option Addr) (n c:Nat),Vm w (.slice p n c) (idsP A)->Calls Tryz.prog 53 #[.agg #[.slice p n c]] w fun e w2=>e=.returned (.int .i64 (na:Int))/\Below w.heap.size w w2):=qAq (fun w p n c hv=>by
  have:=kL hv hT0.srt
  rw[hna] at this;exact this)
 have HGR:Hid (∀ w,Below W0.heap.size W0 w->∀ k (hk:k<A.length),Calls Tryz.prog 84 #[.pointer (some ⟨tb,0,none⟩),.int .i64 A[k].1] w fun e w'=>∃ g c,e=.returned (.tuple #[.slice (some ⟨g,0,none⟩) nc c,.bool true])/\HRow w' w.heap.size 32 3 (.slice (some ⟨g,0,none⟩) nc c) nc (cells3 A[k].2)/\Below w.heap.size w w'):=qAq (fun w hb k hk=>by
  refine (fC (hT0.later hb) (List.getElem_mem hk) hc1 h0).mono ?_;rintro e w' ⟨g,c,rfl,_,hr,hb'⟩;rw[hnc] at hr ⊢;exact⟨g,c,rfl,hr,hb'⟩)
 have HN:=qAq (qBq hna hlen);rw[hnm] at htab ⊢;clear hD hT0 hN hy hx1 e2 hR hyy hst hA hnx he hsz h0 hc1 hAl hrv hlen hnm hnc hna hmt hm8 ht ht' htt;go_enter Tryz.func59,Tryz.ntmps59;go_upto_region 2 with (go_at_call 29;(with_reducible refine htab.mono ?_);rintro e w2 ⟨rfl,hw⟩;subst w2;clear htab);refine Par.wp_region_par4 28 (JR W0 A (fun idx=>[(Value.pointer (some ⟨tb,0,none⟩)),.bool false,.bool false,(Value.pointer (some ⟨tb,0,none⟩)),undef,.int .i64 (na:Int),(Value.pointer (some ⟨b,0,none⟩)),(Value.pointer (some ⟨b,0,none⟩)),(Value.pointer (some ⟨b,1,none⟩)),.slice (some ⟨go,0,none⟩) mt' co,.int .i64 (t:Int),(Value.pointer (some ⟨go,t,none⟩)),.slice pr na cr,.int .i64 (na:Int),.bool false,.bool false,.bool false,(Value.pointer (some ⟨tb,0,none⟩)),.int .i64 (nx:Int),(Value.pointer (some ⟨b,0,none⟩)),(Value.pointer (some ⟨b,0,none⟩)),(Value.pointer (some ⟨b,2,none⟩)),.slice (some ⟨gn,0,none⟩) mt' cn,.int .i64 (t:Int),(Value.pointer (some ⟨gn,t,none⟩)),.int .i64 (nx:Int),.bool false,.bool false].getD idx undef)) ?A ?hm ?hB ?hA ?hJ ?hop ?hT
 case hm=>kernel_rfl
 case hB=>kernel_rfl
 case hA =>
  intro vs;simp only[Par.putA,Par.dstAt,Act.put,qDq,qEq,qFq,qLq,qGq,qHq,qIq];rfl
 case hJ =>
  intro vs;exact⟨aF W0,fun _ _ h=>(by cases h),fun h=>(by cases h)⟩
 case hop =>
  simp only[qMq,List.take_zero,Par.GiveAllK,and_true];and_intros<;>intro l vs w hJ hl hd hcl
  ·have HJ:=qAq hJ;clear hJ hd hcl;simp only[Par.GivesW];go_simp;all_goals exact HJ.out.up 0 (by decide)
  ·have HJ:=qAq hJ;have d0:vs 0=(Value.pointer (some ⟨tb,0,none⟩)):=hJ.ev 0 (by decide) (hd 0 (by kernel_rfl));clear hJ hd hcl;simp only[Par.GivesW,d0];go_simp;all_goals exact HJ.out.up 1 (by decide)
  ·have HJ:=qAq hJ;have d1:vs 1=.bool false:=hJ.ev 1 (by decide) (hd 1 (by kernel_rfl));clear hJ hd hcl;simp only[Par.GivesW,d1];go_simp;all_goals exact HJ.out.up 2 (by decide)
  ·have HJ:=qAq hJ;have d2:vs 2=.bool false:=hJ.ev 2 (by decide) (hd 2 (by kernel_rfl));clear hJ hd hcl;simp only[Par.GivesW,d2];go_simp;all_goals exact HJ.out.up 3 (by decide)
  ·have HJ:=qAq hJ;have d3:vs 3=(Value.pointer (some ⟨tb,0,none⟩)):=hJ.ev 3 (by decide) (hd 3 (by kernel_rfl));have d2:vs 2=.bool false:=hJ.ev 2 (by decide) (hd 2 (by kernel_rfl));have hc:=HL.out w hJ.bel;clear hJ hd hcl;simp only[Par.GivesW,d3,d2];go_simp;refine hc.mono ?_;rintro e y2 ⟨p9,n9,c9,rfl,hc9,hb9⟩;exact⟨_,rfl,HJ.out.live hc9 hb9⟩
  ·have HJ:=qAq hJ;have d2:vs 2=.bool false:=hJ.ev 2 (by decide) (hd 2 (by kernel_rfl));obtain⟨pp,nn,cc,d4,hc⟩:=hJ.v4 (hd 4 (by kernel_rfl));clear hJ hd hcl;simp only[Par.GivesW,d2,d4];go_simp;refine (HCT.out w _ _ _ hc).mono ?_;rintro e y2 ⟨rfl,hb9⟩;exact⟨_,rfl,(HJ.out.on hb9).up 5 (by decide)⟩
  ·have HJ:=qAq hJ;have d2:vs 2=.bool false:=hJ.ev 2 (by decide) (hd 2 (by kernel_rfl));clear hJ hd hcl;simp only[Par.GivesW,d2];go_simp;all_goals exact HJ.out.up 6 (by decide)
  ·have HJ:=qAq hJ;have d6:vs 6=(Value.pointer (some ⟨b,0,none⟩)):=hJ.ev 6 (by decide) (hd 6 (by kernel_rfl));have d2:vs 2=.bool false:=hJ.ev 2 (by decide) (hd 2 (by kernel_rfl));have zl:=(HF.out w hJ.bel).2.2.2.2.2.2.1;clear hJ hd hcl;simp only[Par.GivesW,d6,d2];go_simp;all_goals exact HJ.out.up 7 (by decide)
  ·have HJ:=qAq hJ;have d7:vs 7=(Value.pointer (some ⟨b,0,none⟩)):=hJ.ev 7 (by decide) (hd 7 (by kernel_rfl));have d2:vs 2=.bool false:=hJ.ev 2 (by decide) (hd 2 (by kernel_rfl));have zl:=(HF.out w hJ.bel).2.2.2.2.2.2.1;clear hJ hd hcl;simp only[Par.GivesW,d7,d2];go_simp;all_goals exact HJ.out.up 8 (by decide)
  ·have HJ:=qAq hJ;have d8:vs 8=(Value.pointer (some ⟨b,1,none⟩)):=hJ.ev 8 (by decide) (hd 8 (by kernel_rfl));have d2:vs 2=.bool false:=hJ.ev 2 (by decide) (hd 2 (by kernel_rfl));have k0:=(HF.out w hJ.bel).2.1;clear hJ hd hcl;simp only[Par.GivesW,d8,d2];go_simp;all_goals exact HJ.out.up 9 (by decide)
  ·have HJ:=qAq hJ;have d2:vs 2=.bool false:=hJ.ev 2 (by decide) (hd 2 (by kernel_rfl));clear hJ hd hcl;simp only[Par.GivesW,d2];go_simp;all_goals exact HJ.out.up 10 (by decide)
  ·have HJ:=qAq hJ;have d9:vs 9=.slice (some ⟨go,0,none⟩) mt' co:=hJ.ev 9 (by decide) (hd 9 (by kernel_rfl));have d10:vs 10=.int .i64 (t:Int):=hJ.ev 10 (by decide) (hd 10 (by kernel_rfl));have d2:vs 2=.bool false:=hJ.ev 2 (by decide) (hd 2 (by kernel_rfl));clear hJ hd hcl;simp only[Par.GivesW,d9,d10,d2];go_simp;all_goals exact HJ.out.up 11 (by decide)
  ·have HJ:=qAq hJ;have d11:vs 11=(Value.pointer (some ⟨go,t,none⟩)):=hJ.ev 11 (by decide) (hd 11 (by kernel_rfl));have d2:vs 2=.bool false:=hJ.ev 2 (by decide) (hd 2 (by kernel_rfl));have k0:=(HF.out w hJ.bel).2.2.2.1;have zl:=(HF.out w hJ.bel).2.2.2.2.2.2.2.1;clear hJ hd hcl;simp only[Par.GivesW,d11,d2];go_simp;all_goals exact HJ.out.up 12 (by decide)
  ·have HJ:=qAq hJ;have d12:vs 12=.slice pr na cr:=hJ.ev 12 (by decide) (hd 12 (by kernel_rfl));have d2:vs 2=.bool false:=hJ.ev 2 (by decide) (hd 2 (by kernel_rfl));clear hJ hd hcl;simp only[Par.GivesW,d12,d2];go_simp;all_goals exact HJ.out.up 13 (by decide)
  ·have HJ:=qAq hJ;have d5:vs 5=.int .i64 (na:Int):=hJ.ev 5 (by decide) (hd 5 (by kernel_rfl));have d13:vs 13=.int .i64 (na:Int):=hJ.ev 13 (by decide) (hd 13 (by kernel_rfl));have d2:vs 2=.bool false:=hJ.ev 2 (by decide) (hd 2 (by kernel_rfl));clear hJ hd hcl;simp only[Par.GivesW,d5,d13,d2];go_simp;all_goals exact HJ.out.up 14 (by decide)
  ·have HJ:=qAq hJ;have d2:vs 2=.bool false:=hJ.ev 2 (by decide) (hd 2 (by kernel_rfl));have d14:vs 14=.bool false:=hJ.ev 14 (by decide) (hd 14 (by kernel_rfl));clear hJ hd hcl;simp only[Par.GivesW,d2,d14];go_simp;all_goals exact HJ.out.up 15 (by decide)
  ·have HJ:=qAq hJ;have d15:vs 15=.bool false:=hJ.ev 15 (by decide) (hd 15 (by kernel_rfl));clear hJ hd hcl;simp only[Par.GivesW,d15];go_simp;all_goals exact HJ.out.up 16 (by decide)
  ·have HJ:=qAq hJ;have d16:vs 16=.bool false:=hJ.ev 16 (by decide) (hd 16 (by kernel_rfl));clear hJ hd hcl;simp only[Par.GivesW,d16];go_simp;all_goals exact HJ.out.up 17 (by decide)
  ·have HJ:=qAq hJ;have d17:vs 17=(Value.pointer (some ⟨tb,0,none⟩)):=hJ.ev 17 (by decide) (hd 17 (by kernel_rfl));have d16:vs 16=.bool false:=hJ.ev 16 (by decide) (hd 16 (by kernel_rfl));have hc:=HNX.out w hJ.bel;clear hJ hd hcl;simp only[Par.GivesW,d17,d16];go_simp;refine hc.mono ?_;rintro e y2 ⟨rfl,rfl⟩;exact⟨_,rfl,HJ.out.up 18 (by decide)⟩
  ·have HJ:=qAq hJ;have d16:vs 16=.bool false:=hJ.ev 16 (by decide) (hd 16 (by kernel_rfl));clear hJ hd hcl;simp only[Par.GivesW,d16];go_simp;all_goals exact HJ.out.up 19 (by decide)
  ·have HJ:=qAq hJ;have d19:vs 19=(Value.pointer (some ⟨b,0,none⟩)):=hJ.ev 19 (by decide) (hd 19 (by kernel_rfl));have d16:vs 16=.bool false:=hJ.ev 16 (by decide) (hd 16 (by kernel_rfl));have zl:=(HF.out w hJ.bel).2.2.2.2.2.2.1;clear hJ hd hcl;simp only[Par.GivesW,d19,d16];go_simp;all_goals exact HJ.out.up 20 (by decide)
  ·have HJ:=qAq hJ;have d20:vs 20=(Value.pointer (some ⟨b,0,none⟩)):=hJ.ev 20 (by decide) (hd 20 (by kernel_rfl));have d16:vs 16=.bool false:=hJ.ev 16 (by decide) (hd 16 (by kernel_rfl));have zl:=(HF.out w hJ.bel).2.2.2.2.2.2.1;clear hJ hd hcl;simp only[Par.GivesW,d20,d16];go_simp;all_goals exact HJ.out.up 21 (by decide)
  ·have HJ:=qAq hJ;have d21:vs 21=(Value.pointer (some ⟨b,2,none⟩)):=hJ.ev 21 (by decide) (hd 21 (by kernel_rfl));have d16:vs 16=.bool false:=hJ.ev 16 (by decide) (hd 16 (by kernel_rfl));have k0:=(HF.out w hJ.bel).2.2.1;clear hJ hd hcl;simp only[Par.GivesW,d21,d16];go_simp;all_goals exact HJ.out.up 22 (by decide)
  ·have HJ:=qAq hJ;have d16:vs 16=.bool false:=hJ.ev 16 (by decide) (hd 16 (by kernel_rfl));clear hJ hd hcl;simp only[Par.GivesW,d16];go_simp;all_goals exact HJ.out.up 23 (by decide)
  ·have HJ:=qAq hJ;have d22:vs 22=.slice (some ⟨gn,0,none⟩) mt' cn:=hJ.ev 22 (by decide) (hd 22 (by kernel_rfl));have d23:vs 23=.int .i64 (t:Int):=hJ.ev 23 (by decide) (hd 23 (by kernel_rfl));have d16:vs 16=.bool false:=hJ.ev 16 (by decide) (hd 16 (by kernel_rfl));clear hJ hd hcl;simp only[Par.GivesW,d22,d23,d16];go_simp;all_goals exact HJ.out.up 24 (by decide)
  ·have HJ:=qAq hJ;have d24:vs 24=(Value.pointer (some ⟨gn,t,none⟩)):=hJ.ev 24 (by decide) (hd 24 (by kernel_rfl));have d16:vs 16=.bool false:=hJ.ev 16 (by decide) (hd 16 (by kernel_rfl));have k0:=(HF.out w hJ.bel).2.2.2.2.1;have zl:=(HF.out w hJ.bel).2.2.2.2.2.2.2.2;clear hJ hd hcl;simp only[Par.GivesW,d24,d16];go_simp;all_goals exact HJ.out.up 25 (by decide)
  ·have HJ:=qAq hJ;have d18:vs 18=.int .i64 (nx:Int):=hJ.ev 18 (by decide) (hd 18 (by kernel_rfl));have d25:vs 25=.int .i64 (nx:Int):=hJ.ev 25 (by decide) (hd 25 (by kernel_rfl));have d16:vs 16=.bool false:=hJ.ev 16 (by decide) (hd 16 (by kernel_rfl));clear hJ hd hcl;simp only[Par.GivesW,d18,d25,d16];go_simp;all_goals exact HJ.out.up 26 (by decide)
  have HJ:=qAq hJ;have d16:vs 16=.bool false:=hJ.ev 16 (by decide) (hd 16 (by kernel_rfl));have d26:vs 26=.bool false:=hJ.ev 26 (by decide) (hd 26 (by kernel_rfl));clear hJ hd hcl;simp only[Par.GivesW,d16,d26];go_simp;all_goals exact HJ.out.up 27 (by decide)
 intro l vs w1 hl hJ;simp only[qNq,List.drop_nil];have d27:vs 27=.bool false:=hJ.ev 27 (by decide) (hl 27 (by decide));simp only[d27];have HB1:=qAq hJ.bel;clear hJ hl d27;go_wp2_with fail;go_loopg [10] (na+1) (fun gh jv w=>∃ (j:Nat),jv=.int .i64 (j:Int)/\j<=na/\na+1<=j+gh/\Below W0.heap.size W0 w)
 case atStart=>exact⟨0,rfl,Nat.zero_le _,by omega,HB1.out⟩
 obtain⟨j,rfl,hj,hg,hB⟩:=hrel;obtain⟨_,x1,_,x2,_,_,xl,xo,_⟩:=HF.out wr hB;by_cases hlt:j<na
 ·have hji:(j:Int)<(na:Int):=(by omega);have hjA:j<A.length:=(by rw[HN.out.1];exact hlt);obtain⟨gr,gv,cv,rfl,hrow⟩:=HROW.out j hjA;obtain⟨q1,q2,q3,q4⟩:=hrow wr hB;have hgr:=HGR.out wr hB j hjA;obtain⟨aj,haj⟩:∃ a,A[j].1=a:=⟨_,rfl⟩;have hlj:A[j].2.length=nc:=HN.out.2 _ (List.getElem_mem hjA)
  have HQ:Hid (∀ w,Below W0.heap.size W0 w->w.cell? ⟨gr,j*2+1,none⟩=some (.slice (some ⟨gv,0,none⟩) nc cv)/\gr<w.heap.size/\InV (fun q=>(Value.slice (some ⟨gv,0,none⟩) nc cv).ownBlock=some q) w (.slice (some ⟨gv,0,none⟩) nc cv) A[j].2):=qAq (fun w hb=>by
   obtain⟨_,r2,r3,r4⟩:=hrow w hb;exact⟨r2,r4,InV.of_row r3 hlj⟩)
  have HLJ:=qAq hlj;have HB:=qAq hB;rw[haj] at q1 hgr;clear hrow q2 q3 hlj haj hB;go_upto_region 8 with (go_at_call 84;(with_reducible refine hgr.mono ?_);rintro e w2 ⟨g2,c2,rfl,hr2,hb2⟩;have H2:=qAq (qBq hr2 (aB HB.out hb2));clear hgr hr2 hb2);clear q1 q4 x1 x2 xl xo;obtain⟨_,x1,_,x2,_,_,xl,xo,_⟩:=HF.out w2 H2.out.2;obtain⟨r2,r4,r5⟩:=HQ.out w2 H2.out.2;have hcmp:=aBr (InV.of_row H2.out.1 HLJ.out) r5;clear r5;go_wp2_with (go_at_call 95;(with_reducible refine hcmp.mono ?_);rintro e w3 ⟨rfl,hb3⟩;have H3:=qAq (aB H2.out.2 hb3);clear hcmp hb3);go_roundg (na-j)
  case measure=>omega
  exact⟨j+1,rfl,by omega,by omega,H3.out⟩
 obtain rfl:j=na:=(by omega);have HB:=qAq hB;clear hB;go_wp2_with fail;go_ret;exact⟨rfl,HB.out⟩
end Go.Proofs.YthlccadnojnkaaaGreat
namespace Go.Proofs.YthlccadnojnkaaaGreat
open Go Go.RowKit Go.Proofs Co Co.S
theorem aDI {u:OpX} (h:F64 u.id):OpOk (cutOp u):=by
 refine⟨h,?_,?_,fun x hx=>?_,?_⟩
 ·exact Nat.le_trans (sI 20 u.tbl) (by unfold maxLen;omega)
 ·exact Nat.le_trans (sI 20 u.col) (by unfold maxLen;omega)
 ·have hx:x∈(cutR 7 u.vals):=hx;unfold cutR at hx;have h1:=List.mem_of_mem_take hx;obtain⟨y,_,rfl⟩:=List.mem_map.1 h1;exact Nat.le_trans (sI 20 y.2.2) (by unfold maxLen;omega)
 exact Nat.le_trans (aDx 7 u.vals) (by omega)
theorem yB {L:List OpX} (h:∀ o∈L,F64 o.id) (M:Nat):∀ o∈(L.take M).map cutOp,OpOk o:=fun o ho=>by
 obtain⟨u,hu,rfl⟩:=List.mem_map.1 ho;exact aDI (h u (List.mem_of_mem_take hu))
theorem iN {W w:World} {p:Option Addr} {L:List OpX} (h:OpsR W p L) (hb:Below W.heap.size W w):OpsR w p L:=fun j hj=>by
 obtain⟨b,off,vv,e,hlt,c0,c1,c2,c3,c4,hv,h1,h2,h3⟩:=h j hj;have hk:=hb.block b hlt;have hc:∀ (o:Nat) (v:Value),W.cell? ⟨b,o,none⟩=some v->w.cell? ⟨b,o,none⟩=some v:=(fun o v hv=>(World.cell?_of_block (a:=⟨b,o,none⟩) hk).trans hv);exact⟨b,off,vv,e,Nat.lt_of_lt_of_le hlt hb.size,hc _ _ c0,hc _ _ c1,hc _ _ c2,hc _ _ c3,hc _ _ c4,(hv.later hb).mono (fun q _ hq=>Nat.lt_of_lt_of_le hq hb.size),h1,h2,h3⟩
abbrev Lz:List PT:=List.replicate 4 (0,[])
theorem cD:∀ x∈Lz,SmP 0 x:=fun x hx=>by
 obtain rfl:=List.eq_of_mem_replicate hx;exact⟨Nat.le_refl _,Nat.le_refl _⟩
theorem cL:∀ t∈pre 4,0<t.cols.length/\t.cols.length<=1000:=fun t ht=>⟨(iM t ht).1,by have:=(iM t ht).2;omega⟩
structure Rd2 (W:World) (d b:Nat) (ts:List T) (L:List PT):Prop where
 dd:∃ st O,Dd W d ts st O/\st.map (·.2)=L
 nn:∃ tt i O,DbN W b ts tt i O/\tt.map keyN=L
theorem Rd2.later {W w:World} {d b:Nat} {ts:List T} {L:List PT} (h:Rd2 W d b ts L) (hb:Below W.heap.size W w):Rd2 w d b ts L:=by
 obtain⟨⟨st,O,h1,h2⟩,⟨tt,i,O',h3,h4⟩⟩:=h;exact⟨⟨st,O,h1.later hb,h2⟩,⟨tt,i,O',h3.later hb,h4⟩⟩
section
variable {W:World} {d b:Nat} {L:List PT} {m:Nat}
theorem aAr {tt:List RT} (h:tt.map keyN=L) (hs:∀ x∈L,SmP m x) (hm:m<=590):∀ y∈tt,y.A.length<=100000:=fun y hy=>by
 have h1:keyN y∈L:=(by rw[<- h];exact List.mem_map_of_mem hy);obtain⟨a1,a2⟩:=hs _ h1;have a1:y.nx<=m:=a1;have a2:y.A.length<=y.nx:=a2;omega
end
def firstK (p:Nat->Bool) (n:Nat):Option Nat:=(List.range n).find? p
theorem aV {p:Nat->Bool} {n:Nat} (h:∀ j,j<n->p j=false):firstK p n=none:=by
 unfold firstK;rw[List.find?_eq_none];intro j hj;rw[h j (List.mem_range.1 hj)];decide
theorem aZ {p:Nat->Bool} {n k:Nat} (hk:k<n) (h:p k=true) (h0:∀ j,j<k->p j=false):firstK p n=some k:=by
 unfold firstK;rw[List.find?_range_eq_some];exact⟨h,List.mem_range.2 hk,fun j hj=>by rw[h0 j hj];rfl⟩
theorem dZ {p:Nat->Bool} {n k:Nat} (h:firstK p n=some k):k<n/\p k=true/\∀ j,j<k->p j=false:=by
 unfold firstK at h;rw[List.find?_range_eq_some] at h;obtain⟨h1,h2,h3⟩:=h;exact⟨List.mem_range.1 h2,h1,fun j hj=>by simpa using h3 j hj⟩
def valC (t:T) (x:ByteArray) (r:List T3):T3:=r.getD (ixC t.cols x).toNat z3
def likeP (t:T) (x:ByteArray) (a b:List T3):Bool:=decide (valC t x a=valC t x b)
def cAt (t:T) (k:Nat):C:=t.cols.getD k ⟨e0,0,false,e0⟩
def nullB (t:T) (r:List T3) (k:Nat):Bool:=(cAt t k).mu&&decide ((r.getD k z3).1=0)
def keyB (t:T) (r:List T3) (B:List (List T3)):Bool:=decide (t.key≠e0)&&B.any (fun a=>likeP t t.key r a)
def refB (ts:List T) (As:List (List R1)) (t:T) (r:List T3) (k:Nat):Bool:=decide ((cAt t k).tgt≠e0)&&(decide ((r.getD k z3).1≠0)&&(byKeyP ts As (cAt t k).tgt (r.getD k z3)).isNone)
def brokenB (t:T) (d:D) (r:List T3) (B:List (List T3)):Bool:=B.any (fun a=>d.left.all (fun x=>likeP t x r a)&&!likeP t d.right r a)
def rowF (ts:List T) (As:List (List R1)) (t:T) (r:List T3) (B:List (List T3)):Int×ByteArray :=
 match firstK (nullB t r) t.cols.length with
 | some k=>(7,(cAt t k).nm)
 | none=>if keyB t r B=true then (8,t.key) else
  match firstK (refB ts As t r) t.cols.length with
  | some k=>(9,(cAt t k).nm)
  | none=>match firstK (fun k=>brokenB t (t.deps.getD k ⟨[],e0⟩) r B) t.deps.length with
   | some k=>(10,(t.deps.getD k ⟨[],e0⟩).right)
   | none=>(0,e0)
def lessR (A:List R1) (i:Nat):List (List T3):=(A.take i).map (·.2)
def rowAt (A:List R1) (i:Nat):R1:=A.getD i (0,[])
def firstT (l:List T3) (i:Nat):Bool:=decide ((l.getD i z3).1=2)&&(List.range i).all fun j=>decide (l.getD j z3≠l.getD i z3)
def wordN (A:List R1) (c:Nat):Nat:=((List.range A.length).filter (firstT (A.map fun a=>a.2.getD c z3))).length
def badRow (ts:List T) (As:List (List R1)) (t:T) (A:List R1) (i:Nat):Bool:=decide ((rowF ts As t (rowAt A i).2 (lessR A i)).1≠0)
def tooF (t:T) (A:List R1):Int×Int×ByteArray :=
 if 64<A.length then (5,0,e0) else
  match firstK (fun c=>decide (40<wordN A c)) t.cols.length with
  | some c=>(5,0,(cAt t c).nm)
  | none=>(0,0,e0)
def wrongF (ts:List T) (As:List (List R1)) (t:T) (A:List R1):Int×Int×ByteArray :=
 match firstK (badRow ts As t A) A.length with
 | some i=>((rowF ts As t (rowAt A i).2 (lessR A i)).1,(rowAt A i).1,(rowF ts As t (rowAt A i).2 (lessR A i)).2)
 | none=>(0,0,e0)
def tabF (ts:List T) (As:List (List R1)) (t:T) (A:List R1):Int×Int×ByteArray:=if (tooF t A).1=0 then wrongF ts As t A else tooF t A
def tabAt (ts:List T) (As:List (List R1)) (j:Nat):Int×Int×ByteArray:=tabF ts As (ts.getD j ⟨e0,[],e0,[]⟩) (As.getD j [])
def checkF (ts:List T) (As:List (List R1)):Int×ByteArray×Int×ByteArray :=
 match firstK (fun j=>decide ((tabAt ts As j).1≠0)) ts.length with
 | some j=>((tabAt ts As j).1,(ts.getD j ⟨e0,[],e0,[]⟩).nm,(tabAt ts As j).2.1,(tabAt ts As j).2.2)
 | none=>(0,e0,0,e0)
def colL (A:List R1) (c:Nat):List T3:=A.map fun a=>a.2.getD c z3
def firstB (l:List T3) (i:Nat):Bool:=decide ((l.getD i z3).1=2)&&(List.range i).all fun j=>decide (l.getD j z3≠l.getD i z3)
def firstsP (l:List T3) (n:Nat):List Nat:=(List.range n).filter (firstB l)
theorem rN (l:List T3) (n:Nat):(firstsP l (n+1)).length=(firstsP l n).length+if firstB l n=true then 1 else 0:=by
 unfold firstsP;rw[List.range_succ,List.filter_append,List.length_append];cases h:firstB l n <;> simp[h]
theorem eA {l:List T3} {i:Nat}:firstB l i=true↔(l.getD i z3).1=2/\∀ j,j<i->l.getD j z3≠l.getD i z3:=by
 unfold firstB;rw[Bool.and_eq_true,List.all_eq_true,decide_eq_true_iff];constructor
 ·rintro ⟨h1,h2⟩;exact⟨h1,fun j hj=>of_decide_eq_true (h2 j (List.mem_range.2 hj))⟩
 rintro ⟨h1,h2⟩;exact⟨h1,fun j hj=>decide_eq_true (h2 j (List.mem_range.1 hj))⟩
theorem dE {l:List T3} {i:Nat} (h:i<l.length):l.getD i z3=l[i]:=by
 rw[List.getD_eq_getElem?_getD,List.getElem?_eq_getElem h];rfl
theorem aBL {x y:T3} (hx:x.2.1=0/\x.2.2.size<=12) (hy:y.2.1=0/\y.2.2.size<=12) (h1:x.1=2) (h2:y.1=2) (e:wd x.2.2=wd y.2.2):x=y:=by
 obtain⟨k,n,s⟩:=x;obtain⟨k',n',s'⟩:=y
 have:=aGG hx.2 hy.2 e
 simp only at h1 h2 hx hy this;rw[h1,h2,hx.1,hy.1,this]
theorem yC {l:List T3} (hv:∀ x∈l,x.1=2->x.2.1=0/\x.2.2.size<=12) :
  ∃ m:List (K 12),m.length=(firstsP l l.length).length/\m.Nodup/\∀ s,s∈m↔∃ x∈l,x.1=2/\wd x.2.2=s:=by
 refine⟨(firstsP l l.length).map (fun i=>wd (l.getD i z3).2.2),List.length_map _,?_,fun s=>⟨fun hs=>?_,?_⟩⟩
 ·have hn:(firstsP l l.length).Pairwise (fun a b=>a≠b):=List.Pairwise.filter _ List.nodup_range;unfold List.Nodup;rw[List.pairwise_map];refine hn.imp_of_mem (fun {i j} hi hj hne e=>hne ?_);obtain⟨hi1,hi2⟩:=List.mem_filter.1 hi;obtain⟨hj1,hj2⟩:=List.mem_filter.1 hj;have hi1:=List.mem_range.1 hi1;have hj1:=List.mem_range.1 hj1;obtain⟨a1,a2⟩:=eA.1 hi2;obtain⟨b1,b2⟩:=eA.1 hj2;have ei:l.getD i z3∈l:=(by rw[dE hi1];exact List.getElem_mem hi1);have ej:l.getD j z3∈l:=(by rw[dE hj1];exact List.getElem_mem hj1);have heq:=aBL (hv _ ei a1) (hv _ ej b1) a1 b1 e;rcases Nat.lt_trichotomy i j with h|h|h
  ·exact absurd heq (b2 i h)
  ·exact h
  exact absurd heq.symm (a2 j h)
 ·obtain⟨i,hi,rfl⟩:=List.mem_map.1 hs;obtain⟨hi1,hi2⟩:=List.mem_filter.1 hi;have hi1:=List.mem_range.1 hi1;exact⟨l.getD i z3,by rw[dE hi1];exact List.getElem_mem hi1,(eA.1 hi2).1,rfl⟩
 rintro ⟨x,hx,h1,rfl⟩
 have hex:∃ i,i<l.length/\l.getD i z3=x:=by
  obtain⟨i,hi,rfl⟩:=List.getElem_of_mem hx;exact⟨i,hi,dE hi⟩
 have hmin:∃ i,(i<l.length/\l.getD i z3=x)/\∀ j,j<i->¬ (j<l.length/\l.getD j z3=x):=by
  obtain⟨i,hi⟩:=hex
  induction i using Nat.strongRecOn with
  | ind i ih =>
   by_cases h:∃ j,j<i/\j<l.length/\l.getD j z3=x
   ·obtain⟨j,hj,h2⟩:=h;exact ih j hj h2
   ·exact⟨i,hi,fun j hj h2=>h ⟨j,hj,h2⟩⟩
 obtain⟨i,⟨hi,he⟩,hm⟩:=hmin;refine List.mem_map.2 ⟨i,List.mem_filter.2 ⟨List.mem_range.2 hi,eA.2 ⟨by rw[he];exact h1,fun j hj e=>hm j hj ⟨by omega,e.trans he⟩⟩⟩,by rw[he]⟩
theorem aDJ {kind:Int} {x:T3} (h:inC kind x=true) (h2:x.1=2):x.2.1=0/\x.2.2.size<=12:=by
 refine⟨?_,iR h h2⟩;unfold inC at h;rw[Bool.and_eq_true] at h;have h:=h.1;unfold mayV at h;rw[h2] at h;simp at h;exact h.1
section
variable {W:World} {tb next:Nat} {t:T} {A:List R1} {lab:Nat->Nat}
theorem rO (h:Tb W tb t next A lab) {c:Nat} (hc:c<t.cols.length) (hx:ixC t.cols t.cols[c].nm=(c:Int)) :
  Calls Tryz.prog 82 #[.pointer (some ⟨tb,0,none⟩),.string t.cols[c].nm] W fun e w'=>e=.returned (.int .i64 ((firstsP (colL A c) A.length).length:Int))/\Below W.heap.size W w':=by
 have hcol:∀ x∈colL A c,x.1=2->x.2.1=0/\x.2.2.size<=12:=fun x hx h2=>by
  unfold colL at hx;obtain⟨a,ha,rfl⟩:=List.mem_map.1 hx;have hl:=h.len a ha;have hc':c<a.2.length:=(by omega);have hv:=h.ok a ha c hc a.2[c] (List.getElem?_eq_getElem hc');rw[dE hc'] at h2 ⊢;obtain⟨u,hu⟩:∃ u,a.2[c]=u:=⟨_,rfl⟩;rw[hu] at hv h2 ⊢;exact aDJ hv h2
 obtain⟨m,m1,m2,m3⟩:=yC hcol;have hl:(colL A c).length=A.length:=(by unfold colL;rw[List.length_map]);rw[hl] at m1;rw[<- m1];refine tF h hc hx m m2 (fun s=>?_);rw[m3];constructor
 ·rintro ⟨x,hx,h1,h2⟩;unfold colL at hx;obtain⟨a,ha,rfl⟩:=List.mem_map.1 hx;have hc':c<a.2.length:=(by rw[h.len a ha];exact hc);rw[dE hc'] at h1 h2;exact⟨a,ha,a.2[c],List.getElem?_eq_getElem hc',h1,h2⟩
 rintro ⟨a,ha,y,hy,h1,h2⟩;have hc':c<a.2.length:=(by rw[h.len a ha];exact hc);rw[List.getElem?_eq_getElem hc'] at hy;cases hy;exact⟨_,List.mem_map_of_mem ha,by rw[dE hc'];exact h1,by rw[dE hc'];exact h2⟩
end
theorem aDK (A:List R1) (c:Nat):(firstsP (colL A c) A.length).length=wordN A c:=rfl
section
variable {W:World} {d b m:Nat} {L:List PT}
theorem Rd2.rows (h:Rd2 W d b (pre 4) L) (hs:∀ x∈L,SmP m x) (hm:m<=590) {t:Nat} (ht:t<(pre 4).length) :
  Calls Tryz.prog 59 #[.pointer (some ⟨d,0,none⟩),.pointer (some ⟨b,0,none⟩),.int .i64 (t:Int),.string (pre 4)[t].nm] W fun e w'=>e=.returned (.bool true)/\Below W.heap.size W w':=by
 obtain⟨⟨st,O,h1,h2⟩,⟨tt,i,O',h3,h4⟩⟩:=h;have e1:t<st.length:=(by rw[h1.len];exact ht);have e2:t<tt.length:=by rw[h3.n];exact ht
 have hk:st[t].2=keyN tt[t]:=by
  have k1:(st.map (·.2))[t]?=(tt.map keyN)[t]?:=(by rw[h2,h4]);rw[List.getElem?_map,List.getElem?_map,List.getElem?_eq_getElem e1,List.getElem?_eq_getElem e2] at k1;exact Option.some.inj k1
 have hm1:(pre 4)[t]∈pre 4:=List.getElem_mem ht;exact aDH h1 h3 ht e1 e2 hk (aO _ hm1) (cL _ hm1).1 (cL _ hm1).2 (aAr h4 hs hm _ (List.getElem_mem e2)) (by decide)
theorem Rd2.same (h:Rd2 W d b (pre 4) L) (hs:∀ x∈L,SmP m x) (hm:m<=590):Calls Tryz.prog 25 #[.pointer (some ⟨d,0,none⟩),.pointer (some ⟨b,0,none⟩)] W fun e w'=>e=.returned (.bool true)/\Below W.heap.size W w':=by
 obtain⟨tt0,i0,Ob0,hDN,hL0⟩:=h.nn;have hN4:tt0.length=4:=(by rw[hDN.n];rfl);obtain⟨psv,csv,esv,_,_⟩:=hDN.form.isslice;have esv:i0.sv=.slice psv 4 csv:=esv;have hbx0:=hDN.box;rw[esv] at hbx0;have HBX:Hid (∀ w,Below W.heap.size W w->w.cell? ⟨b,0,none⟩=some (.slice psv 4 csv)/\b<w.heap.size):=qAq (fun w hw=>⟨aA (aE hw hbx0) 0,aC (aE hw hbx0)⟩);have HDN:=qAq hDN;have HH:=qAq (qBq h (qBq hs hm));clear hDN hL0 hbx0 esv h hs;go_enter Tryz.func25,Tryz.ntmps25;go_wp2_with fail;go_loopg [5] 5 (fun gh jv w=>∃ (t:Nat),jv=.int .i64 (t:Int)/\t<=4/\5<=t+gh/\Below W.heap.size W w)
 case atStart=>exact⟨0,rfl,Nat.zero_le _,by omega,Below.refl _ _⟩
 obtain⟨t,rfl,ht,hg,hB⟩:=hrel;obtain⟨x0,xl⟩:=HBX.out wr hB;by_cases hlt:t<4
 ·have hti:(t:Int)<4:=(by omega);have htp:t<(pre 4).length:=hlt;have htt:t<tt0.length:=(by omega);obtain⟨⟨gs,cs,go,co,gn,cn,pc,kc,pd,kd⟩,esv,eov,env,_,_,_,hR⟩:=HDN.out.reads htp (List.getElem?_eq_getElem htt);have hRw:=hR wr hB
  have epsv:psv=some ⟨gs,0,none⟩/\csv=cs:=by
   have h2:=hRw.b0;have h3:some (Value.slice psv 4 csv)=some (Value.slice (some ⟨gs,0,none⟩) 4 cs):=x0.symm.trans h2;cases h3;exact⟨rfl,rfl⟩
  obtain⟨rfl,rfl⟩:=epsv;have hc1:=(HH.out.1.later hB).rows HH.out.2.1 HH.out.2.2 htp;have y0:=hRw.s0;have yl:=hRw.sl;dsimp only at y0 yl;obtain⟨nm,hnm⟩:∃ x,(pre 4)[t].nm=x:=⟨_,rfl⟩;rw[hnm] at y0 hc1;have HB:=qAq hB;clear hB hR hRw esv eov env hnm;go_wp2_with (go_at_call 59;(with_reducible refine hc1.mono ?_);rintro e w12 ⟨rfl,hb12⟩;have H12:=qAq (aB HB.out hb12);clear hc1 hb12);go_roundg (4-t)
  case measure=>omega
  exact⟨t+1,by go_num,by omega,by omega,H12.out⟩
 obtain rfl:t=4:=(by omega);have HB:=qAq hB;clear hB;go_wp2_with fail;go_ret;exact⟨rfl,HB.out⟩
end
theorem HRow.lit {w:World} {g n size base:Nat} {e:TypeId} {cs:Array Value} {xs:List Value} (h:w.heap[g]?=some (.cells cs e)) (hcs:cs.toList=xs) (hl:xs.length=n*size) (hb:base<=g) (hn:n<=maxLen):HRow w base e size (.slice (some ⟨g,0,none⟩) n n) n xs:=by
 have e1:cs.size=n*size:=(by rw[<- hl,<- hcs,Array.length_toList]);exact⟨hl,.inr ⟨g,n,cs,rfl,hb,h,Nat.le_refl _,hn,Nat.le_of_eq e1.symm,by rw[hcs,<- hl,List.take_length]⟩⟩
theorem aDL {w:World} {base g:Nat} {v1:Value} {o1:OpX} {cs:Array Value} (hg:w.heap[g]?=some (.cells cs 29)) (hcs:cs.toList=opC o1 v1) (hb:base<=g) (h1:HRow w base 32 3 v1 o1.vals.length (cells3 o1.vals)):OpsO w base (.slice (some ⟨g,0,none⟩) 1 1) [o1]:=by
 refine⟨[v1],rfl,HRow.lit hg (by rw[hcs];simp[cellsO]) rfl hb (by unfold maxLen;omega),fun j hj=>?_⟩;have:j=0:=(by simpa using hj);subst this;exact⟨v1,rfl,h1⟩
theorem fJ {w:World} {base g:Nat} {v1 v2:Value} {o1 o2:OpX} {cs:Array Value} (hg:w.heap[g]?=some (.cells cs 29)) (hcs:cs.toList=opC o1 v1++opC o2 v2) (hb:base<=g) (h1:HRow w base 32 3 v1 o1.vals.length (cells3 o1.vals)) (h2:HRow w base 32 3 v2 o2.vals.length (cells3 o2.vals)):OpsO w base (.slice (some ⟨g,0,none⟩) 2 2) [o1,o2]:=by
 refine⟨[v1,v2],rfl,HRow.lit hg (by rw[hcs];simp[cellsO]) rfl hb (by unfold maxLen;omega),fun j hj=>?_⟩;have hj:j<2:=hj;rcases (show j=0∨j=1 by omega) with rfl|rfl
 ·exact⟨v1,rfl,h1⟩
 exact⟨v2,rfl,h2⟩
abbrev sA:ByteArray:=⟨#[97]⟩
abbrev sB:ByteArray:=⟨#[98]⟩
theorem cM {k:Int} {tb col:ByteArray} {v:List T3} (h1:tb.size<=100) (h2:col.size<=100) (h3:∀ x∈v,x.2.2.size<=100) (h4:v.length<=10):OpOk ⟨k,tb,0,col,v⟩ :=
 ⟨by unfold F64;exact⟨by show (-9223372036854775808:Int)<=0;decide,by show (0:Int)<=9223372036854775807;decide⟩,Nat.le_trans h1 (by unfold maxLen;omega),Nat.le_trans h2 (by unfold maxLen;omega),fun x hx=>Nat.le_trans (h3 x hx) (by unfold maxLen;omega),Nat.le_trans h4 (by omega)⟩
theorem lJ (W:World):Calls Tryz.prog 31 #[] W fun e w'=>e=.returned (.bool true)/\Below W.heap.size W w':=by
 have h:=uN W;go_enter Tryz.func31,Tryz.ntmps31;go_wp2_with (go_at_call 65;(with_reducible refine h.mono ?_);rintro e w' ⟨rfl,hb⟩);go_ret;exact⟨rfl,hb⟩
