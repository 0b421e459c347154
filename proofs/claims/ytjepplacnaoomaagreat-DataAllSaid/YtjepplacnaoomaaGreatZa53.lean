import Derived.Test.YtjepplacnaoomaaGreatZa45
namespace Go.Proofs.YtjepplacnaoomaaGreat
open Go Go.RowKit Go.Proofs Co Co.S
set_option maxRecDepth 100000 in
set_option maxHeartbeats 8000000 in
theorem nvalue_any {W : World} {b : Nat} {us : List T} {tt : List RT} {i : NI} {O : Nat→Nat} (h : DbN W b us tt i O) (hi : InvQ us) (hc1 : ∀ t∈us,t.cols.length≤1000) (hAl : ∀ y∈tt,y.A.length≤100000) {v : Value} (x : ByteArray) (id : Int) {p : List ByteArray} (hp : Wd W v p) :
  Calls Tryz.prog 21 #[(Value.pointer (some ⟨b,0,none⟩)),.string x,.int .i64 id,v] W fun e w'=>e=.returned (.tuple #[(Value.agg #[Value.int .i64 ((valueP us (rowsN tt) x id p).1.1),Value.int .i64 ((valueP us (rowsN tt) x id p).1.2.1),Value.string ((valueP us (rowsN tt) x id p).1.2.2)]),.bool (valueP us (rowsN tt) x id p).2])∧Below W.heap.size W w':=by
 have hb1:=below_alloc W (.cells #[.int .i64 0,.int .i64 0,.string e0] 26)
 have k1:=heap_alloc_new W (.cells #[.int .i64 0,.int .i64 0,.string e0] 26)
 obtain ⟨w1,hw1⟩ : ∃ w1,W.alloc (.cells #[.int .i64 0,.int .i64 0,.string e0] 26)=w1:=⟨_,rfl⟩
 obtain ⟨B,hB⟩ : ∃ B,W.heap.size=B:=⟨_,rfl⟩
 rw [hw1] at hb1 k1
 rw [hB] at k1
 have h1:=h.later hb1
 have hp1:=hp.later hb1
 have hc:=refCol_any (tb:=x) h1.rdTs hp1.rd
 obtain ⟨n,hn⟩ : ∃ n,p.length=n:=⟨_,rfl⟩
 obtain ⟨q,cap,rfl,hcap,hm⟩:=hp1.slice
 obtain ⟨res,hres⟩ : ∃ r,valueP us (rowsN tt) x id p=r:=⟨_,rfl⟩
 have hfind:=rfind_any (x:=x) h1.rdTs
 have x0 : w1.cell? ⟨b,0,none⟩=some i.sv:=nd_cell h1.box 0
 have xl:=lt_of_heap h1.box
 have HDN : Hid (∀ w,Below W.heap.size W w→DbN w b us tt i O):=Lib.hid (fun w hw=>h.later hw)
 have HF:=Lib.hid (And.intro hi (And.intro hc1 (And.intro hAl hn)))
 have HW:=Lib.hid (And.intro hw1 (And.intro hB (And.intro hb1 k1)))
 have HP:=Lib.hid hp
 have HRES:=Lib.hid hres
 obtain ⟨er,her⟩ : ∃ e,(pcolL us x p).2.2=e:=⟨_,rfl⟩
 obtain ⟨s2,hs2⟩ : ∃ e,(pcolL us x p).2.1=e:=⟨_,rfl⟩
 obtain ⟨cc,hcc⟩ : ∃ e,(pcolL us x p).1=e:=⟨_,rfl⟩
 rw [her,hs2,hcc] at hc
 obtain ⟨nm0,kd0,mu0,tg0⟩:=cc
 rw [show colVQ ⟨nm0,kd0,mu0,tg0⟩=.agg #[.string nm0,.int .i64 kd0,.bool mu0,.string tg0] from rfl] at hc
 have HER:=Lib.hid her
 rw [hn] at hc hcap
 rw [hres,hn]
 obtain ⟨sv,hsv⟩ : ∃ s,i.sv=s:=⟨_,rfl⟩
 rw [hsv] at hc hfind x0
 have HSV:=Lib.hid hsv
 have FIN : Hid (∀ (w wz : World) (a b c : Value),Below W.heap.size W w→w.heap[B]?=some (.cells #[.int .i64 0,.int .i64 0,.string e0] 26)→((w.setCell ⟨B,0,none⟩ a).setCell ⟨B,1,none⟩ b).setCell ⟨B,2,none⟩ c=wz →
   wz.cell? ⟨B,0,none⟩=some a∧wz.cell? ⟨B,1,none⟩=some b∧wz.cell? ⟨B,2,none⟩=some c∧Below W.heap.size W wz):=Lib.hid (fun w wz a b c hb hz e=>by
  subst e
  have h3:=set3 hz a b c
  exact ⟨nd_cell h3 0,nd_cell h3 1,nd_cell h3 2,below_set3 hb (Nat.le_of_eq HW.out.2.1) _ _ _⟩)
 have CELLS : Hid (∀ (w : World),w.heap[B]?=some (.cells #[.int .i64 0,.int .i64 0,.string e0] 26)→B<w.heap.size∧w.cell? ⟨B,0,none⟩=some (.int .i64 0)∧w.cell? ⟨B,1,none⟩=some (.int .i64 0)∧w.cell? ⟨B,2,none⟩=some (.string e0)∧∀ i,w.frozen? ⟨B,i,none⟩=false):=Lib.hid (fun w hz =>
  ⟨lt_of_heap hz,nd_cell hz 0,nd_cell hz 1,nd_cell hz 2,fun i=>frozen_of_row w B i _ _ hz⟩)
 clear hw1 hB hb1 k1 h h1 hp hp1 hi hc1 hAl hn hres her hs2 hcc hsv
 unfold maxLen at hm
 go_enter Tryz.func21,Tryz.ntmps21
 go_upto_region 1 with fail
 rw [HW.out.1,HW.out.2.1]
 go_upto_region 2 with (go_at_call 64; (with_reducible refine hc.mono ?_); rintro e w3 ⟨rfl,hb3⟩; have hb4:=below_alloc w3 (.cells #[.string nm0,.int .i64 kd0,.bool mu0,.string tg0] 116); have H3:=Lib.hid (And.intro (below_on HW.out.2.2.1 (below_on hb3 hb4)) (heap_on hb4 (heap_on hb3 HW.out.2.2.2))); clear hc hb3 hb4)
 generalize w3.alloc _=w4 at H3 ⊢
 clear x0 xl hfind
 have hz4:=H3.out.2
 obtain ⟨zl,z0,z1,z2,zf⟩:=CELLS.out _ hz4
 by_cases hok : er=0
 ·subst hok
  have hlen : 1≤n∧n≤4:=by
   have h1:=HER.out
   unfold pcolL at h1
   split at h1
   ·exact absurd h1 (by decide)
   ·have:=HF.out.2.2.2; omega
  have hok0 : (pcol us x (p.drop 0)).2.2=0:=by
   have h1:=HER.out
   unfold pcolL at h1
   rw [if_neg (by have:=HF.out.2.2.2; omega)] at h1
   exact h1
  have hcol0:=(pcol_ok (by have:=HF.out.2.2.2; omega : 0<p.length) hok0).1
  obtain ⟨t0,ht0,_,hix0,_,_,_⟩:=hasC_at hcol0
  have hD4:=HDN.out w4 H3.out.1
  have hx0:=nd_cell hD4.box 0
  have hxl:=lt_of_heap hD4.box
  have hf4:=rfind_any (x:=x) hD4.rdTs
  have ht0' : t0<tt.length:=by rw [hD4.n]; exact ht0
  have hat:=nat_any hD4 ht0 (List.getElem?_eq_getElem ht0') (HF.out.2.2.1 _ (List.getElem_mem ht0')) id
  have hrA : rowsAt us (rowsN tt) x=tt[t0].A:=by
   unfold rowsAt
   rw [hix0,Int.toNat_natCast,List.getElem?_map,List.getElem?_eq_getElem ht0']; rfl
  rw [hix0] at hf4
  rw [HSV.out] at hf4 hx0
  have hsrt:=(hD4.ok ht0 (List.getElem?_eq_getElem ht0')).srt
  rcases atP_cases hsrt id with ⟨e1,e2⟩ | ⟨k,hk,e1,e2⟩
  ·rw [e1] at hat
   have hv0 : valueP us (rowsN tt) x id p=(z3,false):=by
    unfold valueP
    rw [if_neg (fun h=>by rw [hrA,hasId_no.2 e2] at h; exact absurd h.2 (by decide))]
   obtain rfl : res=(z3,false):=HRES.out.symm.trans hv0
   clear hrA e1 e2 hv0 hok0 hcol0
   go_wp2_with (first
    | (go_at_call 46; (with_reducible refine hf4.mono ?_); rintro e w5 ⟨rfl,hw⟩; subst w5; clear hf4)
    | (go_at_call 65; (with_reducible refine hat.mono ?_); rintro e w5 ⟨rfl,hw⟩; subst w5; clear hat))
   generalize hwz : ((World.setCell _ _ _).setCell _ _).setCell _ _=wz
   obtain ⟨y0,y1,y2,hBz⟩:=FIN.out _ _ _ _ _ H3.out.1 H3.out.2 hwz
   refine bodyPost_ret (v:=.tuple #[(Value.agg #[Value.int .i64 (0),Value.int .i64 (0),Value.string (e0)]),.bool false]) (by simp [results,Tryz.results21,go_sem,y0,y1,y2]) rfl ?_
   exact ⟨rfl,hBz⟩
  ·rw [e1] at hat
   have hid : hasId (rowsAt us (rowsN tt) x) id=true:=by rw [hrA]; exact hasId_mem.2 ⟨_,List.getElem_mem hk,e2⟩
   have hv0 : valueP us (rowsN tt) x id p=(valP us (rowsN tt) x id p,true):=by
    unfold valueP
    rw [if_pos ⟨HER.out,hid⟩]
   have hres1 : (valP us (rowsN tt) x id (p.drop 0),true)=res:=hv0.symm.trans HRES.out
   have HR1:=Lib.hid (And.intro hres1 (And.intro hok0 hid))
   have hk0 : ¬ (k : Int)<0:=by omega
   obtain ⟨m,rfl⟩ : ∃ m,n=m+1:=⟨n - 1,by omega⟩
   have hm4 : m≤3:=by omega
   have hlast : ((m : Int)+1) - 1=(m : Int):=by omega
   clear hrA e1 e2 hv0 hok0 hcol0 hres1 hid hk
   go_upto_region 4 with (first
    | (go_at_call 46; (with_reducible refine hf4.mono ?_); rintro e w5 ⟨rfl,hw⟩; subst w5; clear hf4)
    | (go_at_call 65; (with_reducible refine hat.mono ?_); rintro e w5 ⟨rfl,hw⟩; subst w5; clear hat))
   clear z0 z1 z2 zf zl hx0 hxl hz4
   go_wp2_with fail
   go_loopg [1,2,13] (m+1) (fun gh xv iv jv w=>∃ (j : Nat) (xx : ByteArray) (ii : Int),jv=.int .i64 (j : Int)∧xv=.string xx∧iv=.int .i64 ii∧j≤m∧m+1≤j+gh∧(pcol us xx (p.drop j)).2.2=0∧hasId (rowsAt us (rowsN tt) xx) ii=true∧(valP us (rowsN tt) xx ii (p.drop j),true)=res∧Below W.heap.size W w∧w.heap[B]?=some (.cells #[.int .i64 0,.int .i64 0,.string e0] 26))
   case atStart=>exact ⟨0,x,id,rfl,rfl,rfl,Nat.zero_le _,by omega,HR1.out.2.1,HR1.out.2.2,HR1.out.1,H3.out.1,H3.out.2⟩
   case round =>
    obtain ⟨j,xx,ii,rfl,rfl,rfl,hj,hg,hpc,hhas,hval,hB,hZ⟩:=hrel
    have hjp : j<p.length:=by have:=HF.out.2.2.2; omega
    obtain ⟨hcol,hnext⟩:=pcol_ok hjp hpc
    obtain ⟨y,hy⟩ : ∃ y,p[j]=y:=⟨_,rfl⟩
    rw [hy] at hcol
    obtain ⟨⟨t,k',c,gs,cs,go,co,gr,na,cr,gv,cv,nc,bc,oc,kc,pd,nd,kd,nm,key⟩,hix,htl,hkn,hna,hcn,hnc,hNV⟩:=nread (HDN.out W (Below.refl _ _)) HF.out.2.1 HF.out.2.2.1 hcol hhas
    obtain ⟨u,hu⟩ : ∃ u,cellP us (rowsN tt) xx ii y=u:=⟨_,rfl⟩
    obtain ⟨tg,htg⟩ : ∃ g,tgtOf us xx y=g:=⟨_,rfl⟩
    rw [hu,htg] at hNV
    obtain ⟨mt',hmt⟩ : ∃ m,us.length=m:=⟨_,rfl⟩
    rw [hmt] at hNV htl
    dsimp only at hix htl hkn hna hcn hnc
    have HNV:=Lib.hid hNV
    have hmt8 : mt'≤8:=by rw [← hmt]; exact HF.out.1.len
    obtain ⟨b1,o1,rfl,_,_⟩:=(HP.out.later hB).word hjp
    have HX : Hid (∀ w,Below W.heap.size W w→w.cell? ⟨b1,o1+j,none⟩=some (.string y)∧b1<w.heap.size):=Lib.hid (fun w hw=>by
     obtain ⟨b',o',e,h1,h2⟩:=(HP.out.later hw).word hjp
     cases e
     rw [hy] at h2
     exact ⟨h2,h1⟩)
    have hfind:=rfind_any (x:=xx) (HDN.out wr hB).rdTs
    rw [hix,HSV.out] at hfind
    have hbk:=fun w (hb : Below W.heap.size W w)=>nbykey_any (HDN.out w hb) HF.out.1 HF.out.2.1 HF.out.2.2.1 tg u
    obtain ⟨rr,hrr⟩ : ∃ r,byKeyP us (rowsN tt) tg u=r:=⟨_,rfl⟩
    rw [hrr] at hbk
    have HBK:=Lib.hid hbk
    have hvl : j=m→(u,true)=res:=fun e=>by rw [← hval,valP_last hjp (by have:=HF.out.2.2.2; omega),hy,hu]
    have hvn : j≠m→rr=none→(z3,true)=res:=fun e1 e=>by
     rw [← hval,valP_none hjp (by have:=HF.out.2.2.2; omega) (by rw [hy,hu,htg,hrr]; exact e)]
    have hvs : j≠m→∀ i,rr=some i→(valP us (rowsN tt) tg i (p.drop (j+1)),true)=res∧hasId (rowsAt us (rowsN tt) tg) i=true∧(pcol us tg (p.drop (j+1))).2.2=0:=fun e1 i e=>by
     refine ⟨?_,byKeyP_mem (hrr.trans e),?_⟩
     ·rw [← hval,valP_some hjp (by have:=HF.out.2.2.2; omega) (by rw [hy,hu,htg,hrr]; exact e),hy,htg]
     ·have:=hnext (by have:=HF.out.2.2.2; omega)
      rw [hy,htg] at this
      exact this
    have HV2:=Lib.hid (And.intro hvl (And.intro hvn hvs))
    have HBZ:=Lib.hid (And.intro hB hZ)
    have hx0:=(HNV.out wr hB).b0
    have hxl:=(HNV.out wr hB).bl
    have hti : (t : Int)<(mt' : Int):=by omega
    have hci : (c : Int)<(nc : Int):=by omega
    have hki : (k' : Int)<(na : Int):=by omega
    have hjm : (j : Int)<(m : Int)+1:=by omega
    have esv : sv=.slice (some ⟨gs,0,none⟩) mt' cs:=by
     have h1:=nd_cell (HDN.out wr hB).box 0
     have h2 : some i.sv=some (Value.slice (some ⟨gs,0,none⟩) mt' cs):=h1.symm.trans hx0
     rw [HSV.out] at h2
     exact Option.some.inj h2
    subst esv
    clear hpc hhas hval hB hZ hnext hcol hy hu htg hix hmt hNV hbk hrr hvl hvn hvs
    go_upto_region 7 with (go_at_call 46; (with_reducible refine hfind.mono ?_); rintro e w6 ⟨rfl,hw⟩; subst w6; clear hfind)
    clear hx0 hxl
    refine Par.wp_region_par 13 [(Value.pointer (some ⟨b,0,none⟩)),(Value.pointer (some ⟨b,0,none⟩)),(Value.pointer (some ⟨b,0,none⟩)),.slice (some ⟨gs,0,none⟩) mt' cs,(Value.int .i64 ((t : Int))),(Value.pointer (some ⟨gs,t*4,none⟩)),.agg #[.string nm,.slice (some ⟨bc,oc,none⟩) nc kc,.string key,.slice pd nd kd],.slice (some ⟨b1,o1,none⟩) (m+1) cap,(Value.int .i64 ((j : Int))),(Value.pointer (some ⟨b1,o1+j,none⟩)),.string y,(Value.int .i64 ((c : Int))),(Value.int .i64 ((c : Int)))] (fun w=>Below W.heap.size W w∧w.heap[B]?=some (.cells #[.int .i64 0,.int .i64 0,.string e0] 26)) ?A1 ?hm1 ?hB1 ?hA1 ((And.intro (below_on HBZ.out.1 (below_drew wr)) (heap_on (below_drew wr) HBZ.out.2))) ?hop1 ?hT1
    case hm1=>kernel_rfl
    case hB1=>kernel_rfl
    case hA1 =>
     simp only [Par.putA,Par.dstAt,Act.put,List.getElem?_toArray,List.getElem?_cons_zero,List.getElem?_cons_succ,Option.bind_some,List.setIfInBounds_toArray,List.set_cons_zero,List.set_cons_succ,List.getD_cons_zero,List.getD_cons_succ]
     rfl
    case hop1 =>
     simp only [List.take_succ_cons,List.take_zero,Par.GiveAll,and_true]
     refine ⟨fun w' hR=>?_,fun w' hR=>?_,fun w' hR=>?_,fun w' hR=>?_,fun w' hR=>?_,fun w' hR=>?_,fun w' hR=>?_,fun w' hR=>?_,fun w' hR=>?_,fun w' hR=>?_,fun w' hR=>?_,fun w' hR=>?_,fun w' hR=>?_⟩
     ·have HR:=Lib.hid hR
      clear hR
      simp only [Par.Gives]
      go_simp
      all_goals exact HR.out
     ·have HR:=Lib.hid hR
      have zl:=(HNV.out w' hR.1).bl
      clear hR
      simp only [Par.Gives]
      go_simp
      all_goals exact HR.out
     ·have HR:=Lib.hid hR
      have zl:=(HNV.out w' hR.1).bl
      clear hR
      simp only [Par.Gives]
      go_simp
      all_goals exact HR.out
     ·have HR:=Lib.hid hR
      have z0:=(HNV.out w' hR.1).b0
      clear hR
      simp only [Par.Gives]
      go_simp
      all_goals exact HR.out
     ·have HR:=Lib.hid hR
      clear hR
      simp only [Par.Gives]
      go_simp
      all_goals exact HR.out
     ·have HR:=Lib.hid hR
      clear hR
      simp only [Par.Gives]
      go_simp
      all_goals exact HR.out
     ·have HR:=Lib.hid hR
      have q0:=(HNV.out w' hR.1).s0
      have q1:=(HNV.out w' hR.1).s1
      have q2:=(HNV.out w' hR.1).s2
      have q3:=(HNV.out w' hR.1).s3
      clear hR
      simp only [Par.Gives]
      go_simp
      all_goals exact HR.out
     ·have HR:=Lib.hid hR
      clear hR
      simp only [Par.Gives]
      go_simp
      all_goals exact HR.out
     ·have HR:=Lib.hid hR
      clear hR
      simp only [Par.Gives]
      go_simp
      all_goals exact HR.out
     ·have HR:=Lib.hid hR
      clear hR
      simp only [Par.Gives]
      go_simp
      all_goals exact HR.out
     ·have HR:=Lib.hid hR
      have q0:=(HX.out w' hR.1).1
      clear hR
      simp only [Par.Gives]
      go_simp
      all_goals exact HR.out
     ·have HR:=Lib.hid hR
      clear hR
      simp only [Par.Gives]
      go_simp
      exact ((HNV.out w' HR.out.1).col).mono (fun e w'' ⟨he,hb⟩=>⟨he,And.intro (below_on HR.out.1 hb) (heap_on hb HR.out.2)⟩)
     ·have HR:=Lib.hid hR
      clear hR
      simp only [Par.Gives]
      go_simp
      all_goals exact HR.out
    case hT1 =>
     intro w' hR
     simp only [List.drop_succ_cons,List.drop_nil]
     have hR0:=hR
     have HR7:=Lib.hid hR.1
     have HZ7 : Hid (∀ w,Below w'.heap.size w' w→w.heap[B]?=some (.cells #[.int .i64 0,.int .i64 0,.string e0] 26)):=Lib.hid (fun w hw=>heap_on hw (hR0.2))
     clear hR hR0
     go_upto_region 8 with fail
     obtain ⟨w7,rfl⟩ : ∃ x,x=w':=⟨_,rfl⟩
     refine Par.wp_region_box 19 17 18 16 (w7.heap.size) 26 (#[.int .i64 0,.int .i64 0,.string e0]) (Par.aggC) (fun y=>Below w7.heap.size w7 y) (Par.VBL [(.eq (Value.pointer (some ⟨b,0,none⟩))),(.eq (Value.pointer (some ⟨b,0,none⟩))),(.eq (Value.pointer (some ⟨b,1,none⟩))),(.eq (.slice (some ⟨go,0,none⟩) mt' co)),(.eq (Value.int .i64 ((t : Int)))),(.eq (Value.pointer (some ⟨go,t,none⟩))),(.eq (.slice (some ⟨gr,0,none⟩) na cr)),(.eq (Value.pointer (some ⟨b,0,none⟩))),(.eq (Value.int .i64 ((t : Int)))),(.eq (.int .i64 ii)),(.eq (Value.int .i64 ((k' : Int)))),(.eq (Value.pointer (some ⟨gr,k'*2,none⟩))),(.eq (Value.pointer (some ⟨gr,k'*2+1,none⟩))),(.eq (.slice (some ⟨gv,0,none⟩) nc cv)),(.eq (Value.int .i64 ((c : Int)))),(.eq (Value.pointer (some ⟨gv,c*3,none⟩))),(.eq (Value.agg #[Value.int .i64 (u.1),Value.int .i64 (u.2.1),Value.string (u.2.2)])),(.any),(.any)]) ?A2 ?hm2 ?hB2 (fun w w' h ht=>h.trans ht.below) (Par.VBL.mono _) (fun w h=>h.size) ?hA2 ((below_drew w7)) (by decide) (by decide) (by decide) (by kernel_rfl) (by kernel_rfl) (by decide) ?hop2 ?hT2
     case hm2=>kernel_rfl
     case hB2=>kernel_rfl
     case hA2 =>
      intro vs
      simp only [Par.putA,Par.dstAt,Act.put,List.getElem?_toArray,List.getElem?_cons_zero,List.getElem?_cons_succ,Option.bind_some,List.setIfInBounds_toArray,List.set_cons_zero,List.set_cons_succ]
      rfl
     case hop2 =>
      have hkd : (List.range 19).map (Par.kdOf 17 18)=[.val,.val,.val,.val,.val,.val,.val,.val,.val,.val,.val,.val,.val,.val,.val,.val,.val,.new,.put]:=rfl
      simp only [hkd,List.take_succ_cons,List.take_zero,Par.GiveAllB,and_true]
      refine ⟨fun vs w hK hd=>?_,fun vs w hK hd=>?_,fun vs w hK hd=>?_,fun vs w hK hd=>?_,fun vs w hK hd=>?_,fun vs w hK hd=>?_,fun vs w hK hd=>?_,fun vs w hK hd=>?_,fun vs w hK hd=>?_,fun vs w hK hd=>?_,fun vs w hK hd=>?_,fun vs w hK hd=>?_,fun vs w hK hd=>?_,fun vs w hK hd=>?_,fun vs w hK hd=>?_,fun vs w hK hd=>?_,fun vs w hK hd=>?_,fun vs w hK=>?_,fun vs w g hK hd a hz=>?_⟩
      ·clear hd
       simp only [Par.GivesW]
       go_simp
       all_goals exact ⟨rfl,Below.refl _ _⟩
      ·have d0:=hd 0 (by decide) (by decide) (by decide) (by kernel_rfl)
       replace d0 : vs 0=(Value.pointer (some ⟨b,0,none⟩)):=d0
       have zl:=(HNV.out w (below_on HR7.out hK)).bl
       clear hd
       simp only [Par.GivesW,d0]
       go_simp
       all_goals exact ⟨rfl,Below.refl _ _⟩
      ·have d1:=hd 1 (by decide) (by decide) (by decide) (by kernel_rfl)
       replace d1 : vs 1=(Value.pointer (some ⟨b,0,none⟩)):=d1
       have zl:=(HNV.out w (below_on HR7.out hK)).bl
       clear hd
       simp only [Par.GivesW,d1]
       go_simp
       all_goals exact ⟨rfl,Below.refl _ _⟩
      ·have d2:=hd 2 (by decide) (by decide) (by decide) (by kernel_rfl)
       replace d2 : vs 2=(Value.pointer (some ⟨b,1,none⟩)):=d2
       have q0:=(HNV.out w (below_on HR7.out hK)).b1
       clear hd
       simp only [Par.GivesW,d2]
       go_simp
       all_goals exact ⟨rfl,Below.refl _ _⟩
      ·clear hd
       simp only [Par.GivesW]
       go_simp
       all_goals exact ⟨rfl,Below.refl _ _⟩
      ·have d3:=hd 3 (by decide) (by decide) (by decide) (by kernel_rfl)
       replace d3 : vs 3=(.slice (some ⟨go,0,none⟩) mt' co):=d3
       have d4:=hd 4 (by decide) (by decide) (by decide) (by kernel_rfl)
       replace d4 : vs 4=(Value.int .i64 ((t : Int))):=d4
       clear hd
       simp only [Par.GivesW,d3,d4]
       go_simp
       all_goals exact ⟨rfl,Below.refl _ _⟩
      ·have d5:=hd 5 (by decide) (by decide) (by decide) (by kernel_rfl)
       replace d5 : vs 5=(Value.pointer (some ⟨go,t,none⟩)):=d5
       have q0:=(HNV.out w (below_on HR7.out hK)).o0
       clear hd
       simp only [Par.GivesW,d5]
       go_simp
       all_goals exact ⟨rfl,Below.refl _ _⟩
      ·clear hd
       simp only [Par.GivesW]
       go_simp
       all_goals exact ⟨rfl,Below.refl _ _⟩
      ·clear hd
       simp only [Par.GivesW]
       go_simp
       all_goals exact ⟨rfl,Below.refl _ _⟩
      ·clear hd
       simp only [Par.GivesW]
       go_simp
       all_goals exact ⟨rfl,Below.refl _ _⟩
      ·have d7:=hd 7 (by decide) (by decide) (by decide) (by kernel_rfl)
       replace d7 : vs 7=(Value.pointer (some ⟨b,0,none⟩)):=d7
       have d8:=hd 8 (by decide) (by decide) (by decide) (by kernel_rfl)
       replace d8 : vs 8=(Value.int .i64 ((t : Int))):=d8
       have d9:=hd 9 (by decide) (by decide) (by decide) (by kernel_rfl)
       replace d9 : vs 9=(.int .i64 ii):=d9
       clear hd
       simp only [Par.GivesW,d7,d8,d9]
       go_simp
       exact ((HNV.out w (below_on HR7.out hK)).atc).mono (fun e w'' h=>⟨_,h.1,⟨rfl,h.2 ▸ Below.refl _ _⟩⟩)
      ·have d6:=hd 6 (by decide) (by decide) (by decide) (by kernel_rfl)
       replace d6 : vs 6=(.slice (some ⟨gr,0,none⟩) na cr):=d6
       have d10:=hd 10 (by decide) (by decide) (by decide) (by kernel_rfl)
       replace d10 : vs 10=(Value.int .i64 ((k' : Int))):=d10
       clear hd
       simp only [Par.GivesW,d6,d10]
       go_simp
       all_goals exact ⟨rfl,Below.refl _ _⟩
      ·have d11:=hd 11 (by decide) (by decide) (by decide) (by kernel_rfl)
       replace d11 : vs 11=(Value.pointer (some ⟨gr,k'*2,none⟩)):=d11
       have zl:=(HNV.out w (below_on HR7.out hK)).rl
       clear hd
       simp only [Par.GivesW,d11]
       go_simp
       all_goals exact ⟨rfl,Below.refl _ _⟩
      ·have d12:=hd 12 (by decide) (by decide) (by decide) (by kernel_rfl)
       replace d12 : vs 12=(Value.pointer (some ⟨gr,k'*2+1,none⟩)):=d12
       have q0:=(HNV.out w (below_on HR7.out hK)).r0
       clear hd
       simp only [Par.GivesW,d12]
       go_simp
       all_goals exact ⟨rfl,Below.refl _ _⟩
      ·clear hd
       simp only [Par.GivesW]
       go_simp
       all_goals exact ⟨rfl,Below.refl _ _⟩
      ·have d13:=hd 13 (by decide) (by decide) (by decide) (by kernel_rfl)
       replace d13 : vs 13=(.slice (some ⟨gv,0,none⟩) nc cv):=d13
       have d14:=hd 14 (by decide) (by decide) (by decide) (by kernel_rfl)
       replace d14 : vs 14=(Value.int .i64 ((c : Int))):=d14
       clear hd
       simp only [Par.GivesW,d13,d14]
       go_simp
       all_goals exact ⟨rfl,Below.refl _ _⟩
      ·have d15:=hd 15 (by decide) (by decide) (by decide) (by kernel_rfl)
       replace d15 : vs 15=(Value.pointer (some ⟨gv,c*3,none⟩)):=d15
       have q0:=(HNV.out w (below_on HR7.out hK)).v0
       have q1:=(HNV.out w (below_on HR7.out hK)).v1
       have q2:=(HNV.out w (below_on HR7.out hK)).v2
       clear hd
       simp only [Par.GivesW,d15]
       go_simp
       all_goals exact ⟨rfl,Below.refl _ _⟩
      ·clear hK
       simp only [Par.GivesW]
       go_simp
       all_goals exact ⟨rfl,rfl⟩
      ·have d16:=hd 16 (by decide) (by decide) (by decide) (by kernel_rfl)
       replace d16 : vs 16=(Value.agg #[Value.int .i64 (u.1),Value.int .i64 (u.2.1),Value.string (u.2.2)]):=d16
       have z0:=nd_cell hz 0
       have z1:=nd_cell hz 1
       have z2:=nd_cell hz 2
       have zf:=fun i=>frozen_of_row w g i _ _ hz
       have zl:=lt_of_heap hz
       have HZ:=Lib.hid hz
       clear hK hd hz
       simp only [Par.GivesW,a,d16]
       go_simp
       exact ⟨grown_set3 w g _ _ _,set3 HZ.out _ _ _⟩
     case hT2 =>
      intro vs w' g hK hV a hBg hz
      simp only [List.drop_succ_cons,List.drop_nil]
      have d0:=hV 0 (by decide) (by decide) (by decide)
      replace d0 : vs 0=(Value.pointer (some ⟨b,0,none⟩)):=d0
      have d1:=hV 1 (by decide) (by decide) (by decide)
      replace d1 : vs 1=(Value.pointer (some ⟨b,0,none⟩)):=d1
      have d2:=hV 2 (by decide) (by decide) (by decide)
      replace d2 : vs 2=(Value.pointer (some ⟨b,1,none⟩)):=d2
      have d3:=hV 3 (by decide) (by decide) (by decide)
      replace d3 : vs 3=(.slice (some ⟨go,0,none⟩) mt' co):=d3
      have d4:=hV 4 (by decide) (by decide) (by decide)
      replace d4 : vs 4=(Value.int .i64 ((t : Int))):=d4
      have d5:=hV 5 (by decide) (by decide) (by decide)
      replace d5 : vs 5=(Value.pointer (some ⟨go,t,none⟩)):=d5
      have d6:=hV 6 (by decide) (by decide) (by decide)
      replace d6 : vs 6=(.slice (some ⟨gr,0,none⟩) na cr):=d6
      have d7:=hV 7 (by decide) (by decide) (by decide)
      replace d7 : vs 7=(Value.pointer (some ⟨b,0,none⟩)):=d7
      have d8:=hV 8 (by decide) (by decide) (by decide)
      replace d8 : vs 8=(Value.int .i64 ((t : Int))):=d8
      have d9:=hV 9 (by decide) (by decide) (by decide)
      replace d9 : vs 9=(.int .i64 ii):=d9
      have d10:=hV 10 (by decide) (by decide) (by decide)
      replace d10 : vs 10=(Value.int .i64 ((k' : Int))):=d10
      have d11:=hV 11 (by decide) (by decide) (by decide)
      replace d11 : vs 11=(Value.pointer (some ⟨gr,k'*2,none⟩)):=d11
      have d12:=hV 12 (by decide) (by decide) (by decide)
      replace d12 : vs 12=(Value.pointer (some ⟨gr,k'*2+1,none⟩)):=d12
      have d13:=hV 13 (by decide) (by decide) (by decide)
      replace d13 : vs 13=(.slice (some ⟨gv,0,none⟩) nc cv):=d13
      have d14:=hV 14 (by decide) (by decide) (by decide)
      replace d14 : vs 14=(Value.int .i64 ((c : Int))):=d14
      have d15:=hV 15 (by decide) (by decide) (by decide)
      replace d15 : vs 15=(Value.pointer (some ⟨gv,c*3,none⟩)):=d15
      have d16:=hV 16 (by decide) (by decide) (by decide)
      replace d16 : vs 16=(Value.agg #[Value.int .i64 (u.1),Value.int .i64 (u.2.1),Value.string (u.2.2)]):=d16
      clear hV
      rw [d16] at hz
      simp only [a,d0,d1,d2,d3,d4,d5,d6,d7,d8,d9,d10,d11,d12,d13,d14,d15,d16]
      clear a d0 d1 d2 d3 d4 d5 d6 d7 d8 d9 d10 d11 d12 d13 d14 d15 d16
      have hz : w'.heap[g]?=some (.cells #[.int .i64 u.1,.int .i64 u.2.1,.string u.2.2] 26):=hz
      have hW8:=below_on HR7.out hK
      have hZ8 : w'.heap[B]?=some (.cells #[.int .i64 0,.int .i64 0,.string e0] 26):=HZ7.out w' hK
      have q0:=nd_cell hz 0
      have q1:=nd_cell hz 1
      have q2:=nd_cell hz 2
      have ql:=lt_of_heap hz
      have HZ8:=Lib.hid (And.intro hW8 (And.intro hZ8 hz))
      obtain ⟨w8,rfl⟩ : ∃ x,x=w':=⟨_,rfl⟩
      clear hK hBg hz
      by_cases hjm' : j=m
      ·subst hjm'
       have hrs:=HV2.out.1 rfl
       obtain ⟨zl,z0,z1,z2,zf⟩:=CELLS.out _ hZ8
       clear hW8 hZ8
       go_wp2_with fail
       generalize hwz : ((World.setCell _ _ _).setCell _ _).setCell _ _=wz
       obtain ⟨y0,y1,y2,hBz⟩:=FIN.out _ _ _ _ _ HZ8.out.1 HZ8.out.2.1 hwz
       refine bodyPost_ret (v:=.tuple #[(Value.agg #[Value.int .i64 (u.1),Value.int .i64 (u.2.1),Value.string (u.2.2)]),.bool true]) (by simp [results,Tryz.results21,go_sem,y0,y1,y2]) rfl ?_
       rw [← hrs]
       exact ⟨rfl,hBz⟩
      ·have hne : ((j : Int) == (m : Int))=false:=beq_eq_false_iff_ne.2 (by omega)
       have n0:=(HNV.out w8 hW8).b0
       have n1:=(HNV.out w8 hW8).s1
       have n2:=(HNV.out w8 hW8).tg
       have l0:=(HNV.out w8 hW8).bl
       have l1:=(HNV.out w8 hW8).sl
       have l2:=(HNV.out w8 hW8).cl
       have hbk:=HBK.out w8 hW8
       clear hW8 hZ8
       cases rr with
       | none =>
        have HN2:=Lib.hid (HV2.out.2.1 hjm' rfl)
        go_upto_region 14 with (go_at_call 19; (with_reducible refine hbk.mono ?_); rintro e w10 ⟨rfl,hb10⟩; have H10:=Lib.hid (And.intro (below_on HZ8.out.1 hb10) (heap_on hb10 HZ8.out.2.1)); clear hbk hb10)
        clear q0 q1 q2 ql n0 n1 n2 l0 l1 l2
        obtain ⟨zl,z0,z1,z2,zf⟩:=CELLS.out _ H10.out.2
        have hrs:=HN2.out
        go_wp2_with fail
        generalize hwz : ((World.setCell _ _ _).setCell _ _).setCell _ _=wz
        obtain ⟨y0,y1,y2,hBz⟩:=FIN.out _ _ _ _ _ H10.out.1 H10.out.2 hwz
        refine bodyPost_ret (v:=.tuple #[(Value.agg #[Value.int .i64 (0),Value.int .i64 (0),Value.string (e0)]),.bool true]) (by simp [results,Tryz.results21,go_sem,y0,y1,y2]) rfl ?_
        rw [← hrs]
        exact ⟨rfl,hBz⟩
       | some i1 =>
        obtain ⟨v1,v2,v3⟩:=HV2.out.2.2 hjm' i1 rfl
        have HVV:=Lib.hid (And.intro v1 (And.intro v2 v3))
        clear v1 v2 v3
        go_wp2_with (go_at_call 19; (with_reducible refine hbk.mono ?_); rintro e w10 ⟨rfl,hb10⟩; have H10:=Lib.hid (And.intro (below_on HZ8.out.1 hb10) (heap_on hb10 HZ8.out.2.1)); clear hbk hb10)
        go_roundg (m - j)
        case measure=>omega
        case rel=>exact ⟨j+1,tg,i1,by go_num,rfl,rfl,by omega,by omega,HVV.out.2.2,HVV.out.2.1,HVV.out.1,H10.out.1,H10.out.2⟩
 ·have hv0 : valueP us (rowsN tt) x id p=(z3,false):=by
   unfold valueP
   rw [if_neg (fun h=>hok (HER.out.symm.trans h.1))]
  obtain rfl : res=(z3,false):=HRES.out.symm.trans hv0
  clear hv0
  have hne : (er != 0)=true:=by simp [hok]
  go_wp2_with fail
  generalize hwz : ((World.setCell _ _ _).setCell _ _).setCell _ _=wz
  obtain ⟨y0,y1,y2,hBz⟩:=FIN.out _ _ _ _ _ H3.out.1 H3.out.2 hwz
  refine bodyPost_ret (v:=.tuple #[(Value.agg #[Value.int .i64 (0),Value.int .i64 (0),Value.string (e0)]),.bool false]) (by simp [results,Tryz.results21,go_sem,y0,y1,y2]) rfl ?_
  exact ⟨rfl,hBz⟩
end Go.Proofs.YtjepplacnaoomaaGreat
