import Derived.Test.YtjepplacnaoomaaGreatZc52
import Derived.Test.YtjepplacnaoomaaGreatZc29
import Derived.Test.YtjepplacnaoomaaGreatZc10
namespace Go.Proofs.YtjepplacnaoomaaGreat
open Go Go.RowKit Go.Proofs Co Co.S
theorem one_cellsF {W : World} {ts : List T} : ∀ {fs : List (Value×Value)},(∀ j (h : j<ts.length) (h' : j<fs.length),RdT W fs[j].1 fs[j].2 ts[j])→∀ u∈cellsF fs ts,u.oneCell'=true:=by
 intro fs h u hu
 unfold cellsF at hu
 rw [List.mem_flatMap] at hu
 obtain ⟨p,hp,hx⟩:=hu
 obtain ⟨k,hk,rfl⟩:=List.getElem_of_mem hp
 rw [List.length_zip] at hk
 have hr:=h k (by omega) (by omega)
 obtain ⟨_,_,e1,_⟩:=hr.1.slice
 obtain ⟨_,_,e2,_⟩:=hr.2.slice
 rw [List.getElem_zip] at hx
 simp only [e1,e2] at hx
 rcases List.mem_cons.1 hx with rfl | hx
 ·rfl
 rcases List.mem_cons.1 hx with rfl | hx
 ·rfl
 rcases List.mem_cons.1 hx with rfl | hx
 ·rfl
 ·rw [List.mem_singleton.1 hx]; rfl
theorem CpN.start {W w4 : World} {ts : List T} {tt : List RT} {fs : List (Value×Value)} {sv nv : Value} {nt : Nat} (hnt : ts.length=nt) (hb : Below W.heap.size W w4) (f4 : HRow w4 W.heap.size 46 4 sv nt (cellsF fs ts)) (f9 : HRow w4 W.heap.size 3 1 nv nt (tt.map fun x=>.int .i64 (x.nx : Int))) :
  ∃ lab,CpN W (w4.alloc (.cells #[sv,.slice none 0 0,nv] 42)) w4.heap.size ts tt fs sv (.slice none 0 0) nv lab []:=by
 subst hnt
 have hx:=heap_alloc_new w4 (.cells #[sv,.slice none 0 0,nv] 42)
 have hb4:=below_alloc w4 (.cells #[sv,.slice none 0 0,nv] 42)
 have l4:=fun q hq=>HRow.lt f4 q hq
 have l9:=fun q hq=>HRow.lt f9 q hq
 have hs : ∀ {u : Value} q,(u.ownBlock=some q)→W.heap.size≤q∧q<w4.heap.size→q≠w4.heap.size:=fun {u} q _ h=>by omega
 refine ⟨fun q=>if q=w4.heap.size then 1 else if sv.ownBlock=some q then 2 else if nv.ownBlock=some q then 4 else 0,below_on hb hb4,fun q hq=>?_,hx,(HRow.mono f4 (Nat.zero_le _)).later hb4,(HRow.mono f9 (Nat.zero_le _)).later hb4,HRow.nil,fun _ _ h=>(by cases h),rfl,if_pos rfl,fun q hq=>?_,fun q hq=>(by cases hq),fun q hq=>?_⟩
 ·have hq : (if q=w4.heap.size then 1 else if sv.ownBlock=some q then 2 else if nv.ownBlock=some q then 4 else 0)≠0:=hq
  have hz:=lt_of_heap hx
  by_cases e1 : q=w4.heap.size
  ·subst e1; exact ⟨hb.size,hz⟩
  rw [if_neg e1] at hq
  by_cases e2 : sv.ownBlock=some q
  ·have:=l4 q e2; exact ⟨this.1,by omega⟩
  rw [if_neg e2] at hq
  by_cases e3 : nv.ownBlock=some q
  ·have:=l9 q e3; exact ⟨this.1,by omega⟩
  rw [if_neg e3] at hq
  exact absurd rfl hq
 ·show (if q=w4.heap.size then 1 else if sv.ownBlock=some q then 2 else _)=2
  have:=l4 q hq
  rw [if_neg (by omega),if_pos hq]
 ·show (if q=w4.heap.size then 1 else if sv.ownBlock=some q then 2 else if nv.ownBlock=some q then 4 else 0)=4
  have:=l9 q hq
  rw [if_neg (by omega),if_neg (f9.apart f4 (by decide) hq),if_pos hq]
theorem RTok.none {W : World} {t : T} {nx j : Nat} {O : Nat→Nat} : RTok W t ⟨.slice none 0 0,nx,[],[]⟩ O j :=
 ⟨HRow.nil,rfl,fun _ h=>(by cases h),fun _ _ h=>(by cases h),fun _ h=>(by cases h),List.Pairwise.nil,fun _ h=>(by cases h),fun _ h=>(by cases h),fun _ h=>(by cases h)⟩
section
variable {W : World} {b : Nat} {ts : List T} {tt : List RT} {i : NI} {Ob : Nat→Nat}
set_option maxRecDepth 100000 in
set_option maxHeartbeats 8000000 in
theorem ncopy_any (h : DbN W b ts tt i Ob) (hAl : ∀ y∈tt,y.A.length≤100000) (h0 : ∀ t∈ts,0<t.cols.length) (hc : ∀ t∈ts,t.cols.length≤1000) (hn0 : 0<ts.length) (hn1 : ts.length≤1000) :
  Calls Tryz.prog 24 #[(Value.pointer (some ⟨b,0,none⟩))] W fun e w'=>∃ ob tt2 i2 O2,e=.returned (Value.pointer (some ⟨ob,0,none⟩))∧DbN w' ob ts tt2 i2 O2∧tt2.map keyN=tt.map keyN∧(∀ q,O2 q≠0→W.heap.size≤q)∧Below W.heap.size W w':=by
 obtain ⟨go,co,eov,_,_⟩:=h.outer.slice hn0
 obtain ⟨nt,hnt⟩ : ∃ n,ts.length=n:=⟨_,rfl⟩
 have xl:=lt_of_heap h.box
 have hgol : go<W.heap.size:=h.lt go (by rw [h.o3 go (by rw [eov]; rfl)]; decide)
 have hone:=one_cellsF h.rd
 have x0 : W.cell? ⟨b,0,none⟩=some i.sv:=nd_cell h.box 0
 have x1 : W.cell? ⟨b,1,none⟩=some i.ov:=nd_cell h.box 1
 have x2 : W.cell? ⟨b,2,none⟩=some i.nv:=nd_cell h.box 2
 rw [eov,hnt] at x1
 have HX : Hid (∀ w,Below W.heap.size W w→b<w.heap.size∧w.cell? ⟨b,0,none⟩=some i.sv∧w.cell? ⟨b,2,none⟩=some i.nv):=Lib.hid (fun w hg =>
  ⟨Nat.lt_of_lt_of_le xl hg.size,(World.cell?_of_block (w:=W) (hg.block b xl)).trans x0,(World.cell?_of_block (w:=W) (hg.block b xl)).trans x2⟩)
 have HFM : Hid (∀ w,Below W.heap.size W w→HRow w 0 46 4 i.sv nt (cellsF i.fs ts)∧HRow w 0 3 1 i.nv nt (tt.map fun x=>.int .i64 (x.nx : Int))):=Lib.hid (fun w hg=>by
  rw [← hnt]; exact ⟨(h.later hg).form,(h.later hg).nxs⟩)
 have HD:=Lib.hid (And.intro h hone)
 have HC0:=Lib.hid (And.intro h0 (And.intro hc (And.intro (show 0<nt by omega) (And.intro (show nt≤1000 by omega) (And.intro hAl hnt)))))
 have HG:=Lib.hid (And.intro eov (And.intro hgol (And.intro x1 xl)))
 clear h h0 hc hn0 hn1 hAl hnt eov hgol hone x0 x1 x2 xl
 go_enter Tryz.func24,Tryz.ntmps24
 go_upto_region 1 with fail
 refine Par.wp_region_par4 11 (RJ W (fun idx=>[(Value.pointer (some ⟨b,0,none⟩)),(Value.pointer (some ⟨b,0,none⟩)),(Value.pointer (some ⟨b,0,none⟩)),i.sv,undef,(Value.pointer (some ⟨b,0,none⟩)),(Value.pointer (some ⟨b,0,none⟩)),(Value.pointer (some ⟨b,2,none⟩)),i.nv].getD idx undef) nt (cellsF i.fs ts) (tt.map fun x=>.int .i64 (x.nx : Int))) ?AA ?hmA ?hBA ?hAA ?hJA ?hopA ?hTA
 case hmA=>kernel_rfl
 case hBA=>kernel_rfl
 case hAA =>
  intro vs
  simp only [Par.putA,Par.dstAt,Act.put,List.getElem?_toArray,List.getElem?_cons_zero,List.getElem?_cons_succ,Option.bind_some,List.setIfInBounds_toArray,List.set_cons_zero,List.set_cons_succ]
  rfl
 case hJA =>
  intro vs
  exact ⟨below_drew W,fun _ _ _ _ h=>(by cases h),fun h=>(by cases h),fun h=>(by cases h),fun h=>(by cases h)⟩
 case hopA =>
  simp only [List.take_succ_cons,List.take_zero,Par.GiveAllK,and_true]
  refine ⟨fun l vs w hJ hl hd hcl=>?_,fun l vs w hJ hl hd hcl=>?_,fun l vs w hJ hl hd hcl=>?_,fun l vs w hJ hl hd hcl=>?_,fun l vs w hJ hl hd hcl=>?_,fun l vs w hJ hl hd hcl=>?_,fun l vs w hJ hl hd hcl=>?_,fun l vs w hJ hl hd hcl=>?_,fun l vs w hJ hl hd hcl=>?_,fun l vs w hJ hl hd hcl=>?_,fun l vs w hJ hl hd hcl=>?_⟩
  ·have HJ:=Lib.hid hJ
   obtain ⟨y1,y2,y3⟩:=HX.out w hJ.bl
   clear hJ hd hcl
   simp only [Par.GivesW]
   go_simp
   all_goals exact HJ.out.up 0 (by decide)
  ·have HJ:=Lib.hid hJ
   obtain ⟨y1,y2,y3⟩:=HX.out w hJ.bl
   have d0 : vs 0=(Value.pointer (some ⟨b,0,none⟩)):=hJ.ev 0 (by decide) (by decide) (by decide) (hd 0 (by kernel_rfl))
   clear hJ hd hcl
   simp only [Par.GivesW,d0]
   go_simp
   all_goals exact HJ.out.up 1 (by decide)
  ·have HJ:=Lib.hid hJ
   obtain ⟨y1,y2,y3⟩:=HX.out w hJ.bl
   have d1 : vs 1=(Value.pointer (some ⟨b,0,none⟩)):=hJ.ev 1 (by decide) (by decide) (by decide) (hd 1 (by kernel_rfl))
   clear hJ hd hcl
   simp only [Par.GivesW,d1]
   go_simp
   all_goals exact HJ.out.up 2 (by decide)
  ·have HJ:=Lib.hid hJ
   obtain ⟨y1,y2,y3⟩:=HX.out w hJ.bl
   have d2 : vs 2=(Value.pointer (some ⟨b,0,none⟩)):=hJ.ev 2 (by decide) (by decide) (by decide) (hd 2 (by kernel_rfl))
   clear hJ hd hcl
   simp only [Par.GivesW,d2]
   go_simp
   all_goals exact HJ.out.up 3 (by decide)
  ·have h10 : l 10=false:=by cases h : l 10 with | false=>rfl | true=>exact absurd (hcl 10 4 (by kernel_rfl) h) (by simp [hl])
   have d3 : vs 3=i.sv:=hJ.ev 3 (by decide) (by decide) (by decide) (hd 3 (by kernel_rfl))
   obtain ⟨v',w6,hrun,hr6,hb6⟩:=app_cpy Tryz.underlying38 infoT46 rfl (by decide) (by decide) w (HFM.out w hJ.bl).1 HC0.out.2.2.1 (by have:=HC0.out; omega) HD.out.2
   exact Par.gives_append rfl (.const (.slice none 0 0)) (.tmp 10) 38 38 rfl rfl d3 hrun (hJ.s4 h10 hr6 hb6)
  ·have HJ:=Lib.hid hJ
   obtain ⟨y1,y2,y3⟩:=HX.out w hJ.bl
   clear hJ hd hcl
   simp only [Par.GivesW]
   go_simp
   all_goals exact HJ.out.up 5 (by decide)
  ·have HJ:=Lib.hid hJ
   obtain ⟨y1,y2,y3⟩:=HX.out w hJ.bl
   have d5 : vs 5=(Value.pointer (some ⟨b,0,none⟩)):=hJ.ev 5 (by decide) (by decide) (by decide) (hd 5 (by kernel_rfl))
   clear hJ hd hcl
   simp only [Par.GivesW,d5]
   go_simp
   all_goals exact HJ.out.up 6 (by decide)
  ·have HJ:=Lib.hid hJ
   obtain ⟨y1,y2,y3⟩:=HX.out w hJ.bl
   have d6 : vs 6=(Value.pointer (some ⟨b,0,none⟩)):=hJ.ev 6 (by decide) (by decide) (by decide) (hd 6 (by kernel_rfl))
   clear hJ hd hcl
   simp only [Par.GivesW,d6]
   go_simp
   all_goals exact HJ.out.up 7 (by decide)
  ·have HJ:=Lib.hid hJ
   obtain ⟨y1,y2,y3⟩:=HX.out w hJ.bl
   have d7 : vs 7=(Value.pointer (some ⟨b,2,none⟩)):=hJ.ev 7 (by decide) (by decide) (by decide) (hd 7 (by kernel_rfl))
   clear hJ hd hcl
   simp only [Par.GivesW,d7]
   go_simp
   all_goals exact HJ.out.up 8 (by decide)
  ·have h10 : l 10=false:=by cases h : l 10 with | false=>rfl | true=>exact absurd (hcl 10 9 (by kernel_rfl) h) (by simp [hl])
   have d8 : vs 8=i.nv:=hJ.ev 8 (by decide) (by decide) (by decide) (hd 8 (by kernel_rfl))
   obtain ⟨v',w6,hrun,hr6,hb6⟩:=app_cpy Tryz.underlying40 infoI3 rfl (by decide) (by decide) w (HFM.out w hJ.bl).2 HC0.out.2.2.1 (by have:=HC0.out; omega) (by intro u hu; obtain ⟨y,_,rfl⟩:=List.mem_map.1 hu; rfl)
   exact Par.gives_append rfl (.const (.slice none 0 0)) (.tmp 15) 40 40 rfl rfl d8 hrun (hJ.s9 h10 hr6 hb6)
  ·obtain ⟨p4,c4,e4⟩:=hJ.v4 (hd 4 (by kernel_rfl))
   obtain ⟨p9,c9,e9⟩:=hJ.v9 (hd 9 (by kernel_rfl))
   have HJ:=Lib.hid hJ.s10
   rw [e4,e9] at HJ
   clear hJ hd hcl
   simp only [Par.GivesW,e4,e9]
   go_simp
   all_goals exact HJ.out
 case hTA =>
  intro l vs w4 hl hJ
  simp only [List.drop_succ_cons,List.drop_zero]
  obtain ⟨p4,c4,e4⟩:=hJ.v4 (hl 4 (by decide))
  obtain ⟨p9,c9,e9⟩:=hJ.v9 (hl 9 (by decide))
  have e10:=hJ.f10 (hl 10 (by decide))
  have f4:=hJ.f4 (hl 4 (by decide))
  have f9:=hJ.f9 (hl 9 (by decide))
  rw [e4,e9] at e10
  rw [e4] at f4
  rw [e9] at f9
  have hbl:=hJ.bl
  simp only [e10]
  generalize vs 0=s0
  generalize vs 1=s1
  generalize vs 2=s2
  generalize vs 3=s3
  generalize vs 5=s5
  generalize vs 6=s6
  generalize vs 7=s7
  generalize vs 8=s8
  simp only [e4,e9]
  clear hJ hl e4 e9 e10
  go_upto_region 2 with fail
  have hst:=CpN.start (ts:=ts) (tt:=tt) (fs:=i.fs) HC0.out.2.2.2.2.2 hbl f4 f9
  generalize w4.alloc _=w5 at hst ⊢
  generalize w4.heap.size=O at hst ⊢
  have HCP:=Lib.hid hst
  clear hst f4 f9 hbl
  go_wp2_with fail
  go_loopg [4] (nt+1) (fun gh iv w=>∃ (tq : Nat) (ov : Value) (lab : Nat→Nat) (cs : List RT),iv=.int .i64 (tq : Int)∧tq≤nt∧nt+1≤tq+gh∧cs.length=tq∧CpN W w O ts tt i.fs (.slice p4 nt c4) ov (.slice p9 nt c9) lab cs)
  case atStart =>
   obtain ⟨lab,h1⟩:=HCP.out
   exact ⟨0,_,lab,[],rfl,Nat.zero_le _,by omega,rfl,h1⟩
  case round =>
   obtain ⟨tq,ov,lab,cs,rfl,htq,hg,hcs,hC⟩:=hrel
   by_cases htl : tq<nt
   ·have htqi : (tq : Int)<(nt : Int):=by omega
    have hnt2 : (nt : Int)≤1000:=by have:=HC0.out.2.2.2.1; omega
    have hts : tq<ts.length:=by rw [HC0.out.2.2.2.2.2]; exact htl
    have htt : tq<tt.length:=by rw [HD.out.1.n]; exact hts
    obtain ⟨y,hy⟩ : ∃ y,tt[tq]=y:=⟨_,rfl⟩
    have hyk : tt[tq]?=some y:=by rw [List.getElem?_eq_getElem htt,hy]
    have hym : y∈tt:=by rw [← hy]; exact List.getElem_mem htt
    obtain ⟨T0,hT0⟩ : ∃ t,ts[tq]=t:=⟨_,rfl⟩
    have hTm : T0∈ts:=by rw [← hT0]; exact List.getElem_mem hts
    have hRT:=HD.out.1.ok hts hyk
    rw [hT0] at hRT
    obtain ⟨pr,cr,hrv,_,_⟩:=hRT.rows.isslice
    obtain ⟨n,hn⟩ : ∃ n,y.A.length=n:=⟨_,rfl⟩
    have hn2 : (n : Int)≤100000:=by have:=HC0.out.2.2.2.2.1 y hym; omega
    rw [hn] at hrv
    have hout:=HD.out.1.outer
    rw [HG.out.1] at hout
    have o3 : W.cell? ⟨go,tq,none⟩=some (.slice pr n cr):=by
     rw [← hrv]
     exact hout.cell (by rw [List.getElem?_map,hyk]; rfl)
    have HO:=Lib.hid (And.intro HG.out.2.1 (And.intro o3 (And.intro HG.out.2.2.1 (And.intro HG.out.2.2.2 hrv))))
    have HN:=Lib.hid (And.intro hn (HC0.out.2.2.2.2.1 y hym))
    have HT:=Lib.hid (And.intro hts (And.intro htt (And.intro hy (And.intro hT0 (And.intro hTm (And.intro hRT hcs))))))
    clear hout hrv o3 hn hyk hym hRT hy hT0 hTm hcs
    obtain ⟨o2,o3,o4,xl,hrv⟩:=HO.out
    have x1:=(World.cell?_of_block (w:=W) (hC.bl.block b xl)).trans o4
    have xl:=Nat.lt_of_lt_of_le xl hC.bl.size
    have HC1:=Lib.hid hC
    clear o2 o3 o4 hrv hC
    go_upto_block 2 with fail
    go_cut [5] from 300 to 300 (fun lv wx=>∃ lab vl,CpN W wx O ts tt i.fs (.slice p4 nt c4) ov (.slice p9 nt c9) lab cs∧RTok wx T0 ⟨lv,y.nx,y.A,vl⟩ lab tq)
    case first =>
     clear x1 xl
     go_wp2_with fail
     go_loopg [5,6] (n+1) (fun gh l0 kv w=>∃ (k : Nat) (vs : List Value) (lv : Value) (lab : Nat→Nat),lv=l0∧kv=.int .i64 (k : Int)∧k≤n∧n+1≤k+gh∧CpN W w O ts tt i.fs (.slice p4 nt c4) ov (.slice p9 nt c9) lab cs∧RTok w T0 ⟨lv,y.nx,y.A.take k,vs⟩ lab tq)
     case atStart=>exact ⟨0,[],_,lab,rfl,rfl,Nat.zero_le _,by omega,HC1.out,RTok.none⟩
     case round =>
      obtain ⟨k,vl,lv,lb,rfl,rfl,hk,hg,hC,hK⟩:=hrel
      obtain ⟨o2,o3,o4,xl,hrv⟩:=HO.out
      have x1:=(World.cell?_of_block (w:=W) (hC.bl.block b xl)).trans o4
      have x2:=(World.cell?_of_block (w:=W) (hC.bl.block go o2)).trans o3
      have xl:=Nat.lt_of_lt_of_le xl hC.bl.size
      have gl:=Nat.lt_of_lt_of_le o2 hC.bl.size
      by_cases hlt : k<n
      ·have hki : (k : Int)<(n : Int):=by omega
       have hkA : k<y.A.length:=by rw [HN.out.1]; exact hlt
       have hRW:=(HD.out.1.later hC.bl).ok HT.out.1 (y:=y) (by rw [List.getElem?_eq_getElem HT.out.2.1,HT.out.2.2.1])
       rw [HT.out.2.2.2.1] at hRW
       have hkv : k<y.vs.length:=by rw [hRW.n]; exact hkA
       have hrows:=hRW.rows
       rw [HN.out.1] at hrows
       obtain ⟨gr,cr',e1,_,_⟩:=hrows.slice (by omega)
       rw [hrv] at e1
       cases e1
       rw [hrv] at hrows
       have hvals:=hRW.vals k hkA hkv
       have hlen:=hRW.len _ (List.getElem_mem hkA)
       have hrng:=hRW.rng _ (List.getElem_mem hkA)
       have hsrt : ∀ x∈y.A.take k,x.1<y.A[k].1:=by
        have h1:=hRW.srt
        rw [← List.take_append_drop k y.A,List.pairwise_append] at h1
        exact fun x hx=>h1.2.2 x hx _ (by rw [List.drop_eq_getElem_cons hkA]; exact List.mem_cons_self)
       obtain ⟨c1,c2⟩:=cellsR_at hRW.n hkA
       have z1:=hrows.cell c1
       have z2:=hrows.cell c2
       have zg:=(HRow.lt hrows gr rfl).2
       obtain ⟨gv,cv,ev,_,_⟩:=hvals.slice (by rw [hlen]; exact HC0.out.1 _ HT.out.2.2.2.2.1)
       obtain ⟨a,ha⟩ : ∃ a,y.A[k]=a:=⟨_,rfl⟩
       obtain ⟨m,hm⟩ : ∃ m,a.2.length=m:=⟨_,rfl⟩
       rw [ev] at z2 hvals
       rw [ha] at z1 z2 hvals hlen hrng hsrt
       rw [hm] at z2 hvals hlen
       have hml : 0<m∧m≤1000:=by have q1:=HC0.out.1 _ HT.out.2.2.2.2.1; have q2:=HC0.out.2.1 _ HT.out.2.2.2.2.1; omega
       have HA:=Lib.hid (And.intro ha (And.intro hm (And.intro hml (And.intro hvals (And.intro hlen (And.intro hrng hsrt))))))
       have hbk : ∀ w q,wr.grownBy w lv.ownBlock→q<W.heap.size→w.heap[q]?=wr.heap[q]?:=fun w q hgb hq=>hgb.block q (Nat.lt_of_lt_of_le hq hC.bl.size) (fun e=>by have h1:=hK.orv q e.symm; have:=(hC.lo q (by rw [h1]; omega)).1; omega)
       have hgrW : gr<W.heap.size:=by
        have:=HT.out.2.2.2.2.2.1.rows
        rw [hrv] at this
        exact (HRow.lt this gr rfl).2
       have hxW:=HO.out.2.2.2.1
       have HX : Hid (∀ w,wr.grownBy w lv.ownBlock→(b<w.heap.size∧go<w.heap.size)∧gr<w.heap.size∧w.cell? ⟨b,1,none⟩=some (.slice (some ⟨go,0,none⟩) nt co)∧w.cell? ⟨go,tq,none⟩=some (.slice (some ⟨gr,0,none⟩) n cr)∧w.cell? ⟨gr,k*2,none⟩=some (.int .i64 a.1)∧w.cell? ⟨gr,k*2+1,none⟩=some (.slice (some ⟨gv,0,none⟩) m cv)∧True):=Lib.hid (fun w hgb =>
        ⟨⟨Nat.lt_of_lt_of_le xl hgb.size,Nat.lt_of_lt_of_le gl hgb.size⟩,Nat.lt_of_lt_of_le zg hgb.size,(World.cell?_of_block (w:=wr) (hbk w b hgb hxW)).trans x1,(World.cell?_of_block (w:=wr) (hbk w go hgb o2)).trans x2,(World.cell?_of_block (w:=wr) (hbk w gr hgb hgrW)).trans z1,(World.cell?_of_block (w:=wr) (hbk w gr hgb hgrW)).trans z2,trivial⟩)
       obtain ⟨Ak,hAk⟩ : ∃ Ak,y.A.take k=Ak:=⟨_,rfl⟩
       have hAkl : Ak.length≤100000:=by rw [← hAk,List.length_take]; omega
       rw [hAk] at hK
       have HC:=Lib.hid (And.intro hC hK)
       have HK:=Lib.hid (And.intro hAk hAkl)
       clear o2 o3 o4 hrv hC hK hAk hAkl hRW hkv hrows hvals hlen hrng hsrt c1 c2 z1 z2 zg ev ha hm hml hbk hgrW hxW
       go_upto_region 9 with fail
       clear x1 x2 xl gl
       refine Par.wp_region_par4 27 (KJ wr (fun idx=>[lv,(Value.pointer (some ⟨b,0,none⟩)),(Value.pointer (some ⟨b,0,none⟩)),(Value.pointer (some ⟨b,1,none⟩)),.slice (some ⟨go,0,none⟩) nt co,(Value.int .i64 ((tq : Int))),(Value.pointer (some ⟨go,tq,none⟩)),.slice (some ⟨gr,0,none⟩) n cr,(Value.int .i64 ((k : Int))),(Value.pointer (some ⟨gr,k*2,none⟩)),(Value.pointer (some ⟨gr,k*2,none⟩)),(Value.int .i64 (a.1)),
        (Value.pointer (some ⟨b,0,none⟩)),(Value.pointer (some ⟨b,0,none⟩)),(Value.pointer (some ⟨b,1,none⟩)),.slice (some ⟨go,0,none⟩) nt co,(Value.int .i64 ((tq : Int))),(Value.pointer (some ⟨go,tq,none⟩)),.slice (some ⟨gr,0,none⟩) n cr,(Value.int .i64 ((k : Int))),(Value.pointer (some ⟨gr,k*2,none⟩)),(Value.pointer (some ⟨gr,k*2+1,none⟩)),.slice (some ⟨gv,0,none⟩) m cv].getD idx undef) lv Ak.length (cellsR Ak vl) a.1 a.2) ?AB ?hmB ?hBB ?hAB ?hJB ?hopB ?hTB
       case hmB=>kernel_rfl
       case hBB=>kernel_rfl
       case hAB =>
        intro vs
        simp only [Par.putA,Par.dstAt,Act.put,List.getElem?_toArray,List.getElem?_cons_zero,List.getElem?_cons_succ,Option.bind_some,List.setIfInBounds_toArray,List.set_cons_zero,List.set_cons_succ]
        rfl
       case hJB =>
        intro vs
        have hd:=below_drew wr
        exact ⟨grownB hd,fun _=>hd,fun _ _ h=>(by cases h),fun h=>(by cases h),fun h=>(by cases h),fun h=>(by cases h),fun h=>(by cases h)⟩
       case hopB =>
        simp only [List.take_succ_cons,List.take_zero,Par.GiveAllK,and_true]
        refine ⟨fun l vs w hJ hl hd hcl=>?_,fun l vs w hJ hl hd hcl=>?_,fun l vs w hJ hl hd hcl=>?_,fun l vs w hJ hl hd hcl=>?_,fun l vs w hJ hl hd hcl=>?_,fun l vs w hJ hl hd hcl=>?_,fun l vs w hJ hl hd hcl=>?_,fun l vs w hJ hl hd hcl=>?_,fun l vs w hJ hl hd hcl=>?_,fun l vs w hJ hl hd hcl=>?_,fun l vs w hJ hl hd hcl=>?_,fun l vs w hJ hl hd hcl=>?_,fun l vs w hJ hl hd hcl=>?_,fun l vs w hJ hl hd hcl=>?_,fun l vs w hJ hl hd hcl=>?_,fun l vs w hJ hl hd hcl=>?_,fun l vs w hJ hl hd hcl=>?_,fun l vs w hJ hl hd hcl=>?_,fun l vs w hJ hl hd hcl=>?_,fun l vs w hJ hl hd hcl=>?_,fun l vs w hJ hl hd hcl=>?_,fun l vs w hJ hl hd hcl=>?_,fun l vs w hJ hl hd hcl=>?_,fun l vs w hJ hl hd hcl=>?_,fun l vs w hJ hl hd hcl=>?_,fun l vs w hJ hl hd hcl=>?_,fun l vs w hJ hl hd hcl=>?_⟩
        ·have HJ:=Lib.hid hJ
         obtain ⟨⟨y1,y0⟩,y2,y3,y4,y5,y6,y7⟩:=HX.out w hJ.gb
         clear hJ hd hcl
         simp only [Par.GivesW]
         go_simp
         all_goals exact HJ.out.up 0 (by decide)
        ·have HJ:=Lib.hid hJ
         obtain ⟨⟨y1,y0⟩,y2,y3,y4,y5,y6,y7⟩:=HX.out w hJ.gb
         clear hJ hd hcl
         simp only [Par.GivesW]
         go_simp
         all_goals exact HJ.out.up 1 (by decide)
        ·have HJ:=Lib.hid hJ
         obtain ⟨⟨y1,y0⟩,y2,y3,y4,y5,y6,y7⟩:=HX.out w hJ.gb
         have d1 : vs 1=(Value.pointer (some ⟨b,0,none⟩)):=hJ.ev 1 (by decide) (hd 1 (by kernel_rfl))
         clear hJ hd hcl
         simp only [Par.GivesW,d1]
         go_simp
         all_goals exact HJ.out.up 2 (by decide)
        ·have HJ:=Lib.hid hJ
         obtain ⟨⟨y1,y0⟩,y2,y3,y4,y5,y6,y7⟩:=HX.out w hJ.gb
         have d2 : vs 2=(Value.pointer (some ⟨b,0,none⟩)):=hJ.ev 2 (by decide) (hd 2 (by kernel_rfl))
         clear hJ hd hcl
         simp only [Par.GivesW,d2]
         go_simp
         all_goals exact HJ.out.up 3 (by decide)
        ·have HJ:=Lib.hid hJ
         obtain ⟨⟨y1,y0⟩,y2,y3,y4,y5,y6,y7⟩:=HX.out w hJ.gb
         have d3 : vs 3=(Value.pointer (some ⟨b,1,none⟩)):=hJ.ev 3 (by decide) (hd 3 (by kernel_rfl))
         clear hJ hd hcl
         simp only [Par.GivesW,d3]
         go_simp
         all_goals exact HJ.out.up 4 (by decide)
        ·have HJ:=Lib.hid hJ
         obtain ⟨⟨y1,y0⟩,y2,y3,y4,y5,y6,y7⟩:=HX.out w hJ.gb
         clear hJ hd hcl
         simp only [Par.GivesW]
         go_simp
         all_goals exact HJ.out.up 5 (by decide)
        ·have HJ:=Lib.hid hJ
         obtain ⟨⟨y1,y0⟩,y2,y3,y4,y5,y6,y7⟩:=HX.out w hJ.gb
         have d4 : vs 4=.slice (some ⟨go,0,none⟩) nt co:=hJ.ev 4 (by decide) (hd 4 (by kernel_rfl))
         have d5 : vs 5=(Value.int .i64 ((tq : Int))):=hJ.ev 5 (by decide) (hd 5 (by kernel_rfl))
         clear hJ hd hcl
         simp only [Par.GivesW,d4,d5]
         go_simp
         all_goals exact HJ.out.up 6 (by decide)
        ·have HJ:=Lib.hid hJ
         obtain ⟨⟨y1,y0⟩,y2,y3,y4,y5,y6,y7⟩:=HX.out w hJ.gb
         have d6 : vs 6=(Value.pointer (some ⟨go,tq,none⟩)):=hJ.ev 6 (by decide) (hd 6 (by kernel_rfl))
         clear hJ hd hcl
         simp only [Par.GivesW,d6]
         go_simp
         all_goals exact HJ.out.up 7 (by decide)
        ·have HJ:=Lib.hid hJ
         obtain ⟨⟨y1,y0⟩,y2,y3,y4,y5,y6,y7⟩:=HX.out w hJ.gb
         clear hJ hd hcl
         simp only [Par.GivesW]
         go_simp
         all_goals exact HJ.out.up 8 (by decide)
        ·have HJ:=Lib.hid hJ
         obtain ⟨⟨y1,y0⟩,y2,y3,y4,y5,y6,y7⟩:=HX.out w hJ.gb
         have d7 : vs 7=.slice (some ⟨gr,0,none⟩) n cr:=hJ.ev 7 (by decide) (hd 7 (by kernel_rfl))
         have d8 : vs 8=(Value.int .i64 ((k : Int))):=hJ.ev 8 (by decide) (hd 8 (by kernel_rfl))
         clear hJ hd hcl
         simp only [Par.GivesW,d7,d8]
         go_simp
         all_goals exact HJ.out.up 9 (by decide)
        ·have HJ:=Lib.hid hJ
         obtain ⟨⟨y1,y0⟩,y2,y3,y4,y5,y6,y7⟩:=HX.out w hJ.gb
         have d9 : vs 9=(Value.pointer (some ⟨gr,k*2,none⟩)):=hJ.ev 9 (by decide) (hd 9 (by kernel_rfl))
         clear hJ hd hcl
         simp only [Par.GivesW,d9]
         go_simp
         all_goals exact HJ.out.up 10 (by decide)
        ·have HJ:=Lib.hid hJ
         obtain ⟨⟨y1,y0⟩,y2,y3,y4,y5,y6,y7⟩:=HX.out w hJ.gb
         have d10 : vs 10=(Value.pointer (some ⟨gr,k*2,none⟩)):=hJ.ev 10 (by decide) (hd 10 (by kernel_rfl))
         clear hJ hd hcl
         simp only [Par.GivesW,d10]
         go_simp
         all_goals exact HJ.out.up 11 (by decide)
        ·have HJ:=Lib.hid hJ
         obtain ⟨⟨y1,y0⟩,y2,y3,y4,y5,y6,y7⟩:=HX.out w hJ.gb
         clear hJ hd hcl
         simp only [Par.GivesW]
         go_simp
         all_goals exact HJ.out.up 12 (by decide)
        ·have HJ:=Lib.hid hJ
         obtain ⟨⟨y1,y0⟩,y2,y3,y4,y5,y6,y7⟩:=HX.out w hJ.gb
         have d12 : vs 12=(Value.pointer (some ⟨b,0,none⟩)):=hJ.ev 12 (by decide) (hd 12 (by kernel_rfl))
         clear hJ hd hcl
         simp only [Par.GivesW,d12]
         go_simp
         all_goals exact HJ.out.up 13 (by decide)
        ·have HJ:=Lib.hid hJ
         obtain ⟨⟨y1,y0⟩,y2,y3,y4,y5,y6,y7⟩:=HX.out w hJ.gb
         have d13 : vs 13=(Value.pointer (some ⟨b,0,none⟩)):=hJ.ev 13 (by decide) (hd 13 (by kernel_rfl))
         clear hJ hd hcl
         simp only [Par.GivesW,d13]
         go_simp
         all_goals exact HJ.out.up 14 (by decide)
        ·have HJ:=Lib.hid hJ
         obtain ⟨⟨y1,y0⟩,y2,y3,y4,y5,y6,y7⟩:=HX.out w hJ.gb
         have d14 : vs 14=(Value.pointer (some ⟨b,1,none⟩)):=hJ.ev 14 (by decide) (hd 14 (by kernel_rfl))
         clear hJ hd hcl
         simp only [Par.GivesW,d14]
         go_simp
         all_goals exact HJ.out.up 15 (by decide)
        ·have HJ:=Lib.hid hJ
         obtain ⟨⟨y1,y0⟩,y2,y3,y4,y5,y6,y7⟩:=HX.out w hJ.gb
         clear hJ hd hcl
         simp only [Par.GivesW]
         go_simp
         all_goals exact HJ.out.up 16 (by decide)
        ·have HJ:=Lib.hid hJ
         obtain ⟨⟨y1,y0⟩,y2,y3,y4,y5,y6,y7⟩:=HX.out w hJ.gb
         have d15 : vs 15=.slice (some ⟨go,0,none⟩) nt co:=hJ.ev 15 (by decide) (hd 15 (by kernel_rfl))
         have d16 : vs 16=(Value.int .i64 ((tq : Int))):=hJ.ev 16 (by decide) (hd 16 (by kernel_rfl))
         clear hJ hd hcl
         simp only [Par.GivesW,d15,d16]
         go_simp
         all_goals exact HJ.out.up 17 (by decide)
        ·have HJ:=Lib.hid hJ
         obtain ⟨⟨y1,y0⟩,y2,y3,y4,y5,y6,y7⟩:=HX.out w hJ.gb
         have d17 : vs 17=(Value.pointer (some ⟨go,tq,none⟩)):=hJ.ev 17 (by decide) (hd 17 (by kernel_rfl))
         clear hJ hd hcl
         simp only [Par.GivesW,d17]
         go_simp
         all_goals exact HJ.out.up 18 (by decide)
        ·have HJ:=Lib.hid hJ
         obtain ⟨⟨y1,y0⟩,y2,y3,y4,y5,y6,y7⟩:=HX.out w hJ.gb
         clear hJ hd hcl
         simp only [Par.GivesW]
         go_simp
         all_goals exact HJ.out.up 19 (by decide)
        ·have HJ:=Lib.hid hJ
         obtain ⟨⟨y1,y0⟩,y2,y3,y4,y5,y6,y7⟩:=HX.out w hJ.gb
         have d18 : vs 18=.slice (some ⟨gr,0,none⟩) n cr:=hJ.ev 18 (by decide) (hd 18 (by kernel_rfl))
         have d19 : vs 19=(Value.int .i64 ((k : Int))):=hJ.ev 19 (by decide) (hd 19 (by kernel_rfl))
         clear hJ hd hcl
         simp only [Par.GivesW,d18,d19]
         go_simp
         all_goals exact HJ.out.up 20 (by decide)
        ·have HJ:=Lib.hid hJ
         obtain ⟨⟨y1,y0⟩,y2,y3,y4,y5,y6,y7⟩:=HX.out w hJ.gb
         have d20 : vs 20=(Value.pointer (some ⟨gr,k*2,none⟩)):=hJ.ev 20 (by decide) (hd 20 (by kernel_rfl))
         clear hJ hd hcl
         simp only [Par.GivesW,d20]
         go_simp
         all_goals exact HJ.out.up 21 (by decide)
        ·have HJ:=Lib.hid hJ
         obtain ⟨⟨y1,y0⟩,y2,y3,y4,y5,y6,y7⟩:=HX.out w hJ.gb
         have d21 : vs 21=(Value.pointer (some ⟨gr,k*2+1,none⟩)):=hJ.ev 21 (by decide) (hd 21 (by kernel_rfl))
         clear hJ hd hcl
         simp only [Par.GivesW,d21]
         go_simp
         all_goals exact HJ.out.up 22 (by decide)
        ·have h24 : l 24=false:=by cases h : l 24 with | false=>rfl | true=>exact absurd (hcl 24 23 (by kernel_rfl) h) (by simp [hl])
         have h25 : l 25=false:=by cases h : l 25 with | false=>rfl | true=>exact absurd (hcl 25 24 (by kernel_rfl) h) (by simp [h24])
         have h26 : l 26=false:=by cases h : l 26 with | false=>rfl | true=>exact absurd (hcl 26 25 (by kernel_rfl) h) (by simp [h25])
         have d22 : vs 22=.slice (some ⟨gv,0,none⟩) m cv:=hJ.ev 22 (by decide) (hd 22 (by kernel_rfl))
         obtain ⟨g1,k1,w6,hrun,hw6,hb6⟩:=app_vals (InV.of_row (HA.out.2.2.2.1.later (hJ.f0 h26)) HA.out.2.1.symm.symm) (by have:=HA.out.2.1; have:=HA.out.2.2.1; omega) (by have:=HA.out.2.1; have:=HA.out.2.2.1; omega)
         exact Par.gives_append rfl (.const (.slice none 0 0)) (.tmp 62) 56 56 rfl rfl d22 hrun (hJ.s23 h24 h25 h26 hw6 hb6)
        ·have h25 : l 25=false:=by cases h : l 25 with | false=>rfl | true=>exact absurd (hcl 25 24 (by kernel_rfl) h) (by simp [hl])
         have h26 : l 26=false:=by cases h : l 26 with | false=>rfl | true=>exact absurd (hcl 26 25 (by kernel_rfl) h) (by simp [h25])
         have d11 : vs 11=(Value.int .i64 (a.1)):=hJ.ev 11 (by decide) (hd 11 (by kernel_rfl))
         obtain ⟨g4,c4,e14,r14,z14⟩:=hJ.f23 (hd 23 (by kernel_rfl))
         have HJ:=Lib.hid (hJ.s24 h25 h26)
         rw [e14] at HJ
         clear hJ hd hcl r14
         simp only [Par.GivesW,d11,e14]
         go_simp
         all_goals exact HJ.out
        ·have h26 : l 26=false:=by cases h : l 26 with | false=>rfl | true=>exact absurd (hcl 26 25 (by kernel_rfl) h) (by simp [hl])
         have h24:=hd 24 (by kernel_rfl)
         have d24:=hJ.f24 h24
         have h23:=hcl 24 23 (by kernel_rfl) h24
         obtain ⟨g4,c4,e14,r14,z14⟩:=hJ.f23 h23
         have HJ:=Lib.hid (hJ.s25 h23 h26)
         rw [e14] at HJ d24
         clear hJ hd hcl r14
         simp only [Par.GivesW,d24]
         go_simp
         all_goals exact HJ.out
        ·have h25:=hd 25 (by kernel_rfl)
         have h23:=hcl 24 23 (by kernel_rfl) (hcl 25 24 (by kernel_rfl) h25)
         obtain ⟨y,rfl,e16,hy,h14y⟩:=hJ.f25 h25 hl
         obtain ⟨g4,c4,e14,r14,z14⟩:=hJ.f23 h23
         have d0 : vs 0=lv:=hJ.ev 0 (by decide) (hd 0 (by kernel_rfl))
         have hrw : HRow wr 0 58 2 lv Ak.length (cellsR Ak vl):=HC.out.2.rows
         obtain ⟨g,cg,w6,hrun,hr6,hg6,ho6⟩:=app_row y (hrw.later hy) (by have:=HK.out.2; omega) a.1 (vs 23) (by rw [e14]; rfl)
         exact Par.gives_append rfl (.tmp 40) (.tmp 65) 55 55 rfl d0 e16 hrun (hJ.s26 h23 hrw rfl hy h14y rfl hr6 hg6 ho6)
       case hTB =>
        intro l vs w4 hl hJ
        simp only [List.drop_succ_cons,List.drop_zero]
        obtain ⟨g4,c4,e14,r14,z14⟩:=hJ.f23 (hl 23 (by decide))
        obtain ⟨g7,c7,e17,r17,z17,s17⟩:=hJ.f26 (hl 26 (by decide))
        rw [e14] at r17 s17
        have hrd:=HC.out.1.round HT.out.2.2.2.2.2.2 HC.out.2 (a:=a) r14 (by rw [HA.out.2.1]; exact HA.out.2.2.2.2.1) r17 hJ.gb z17 (fun q hq=>⟨by cases hq; exact z14,s17 q hq⟩) (by rw [← HK.out.1]; exact HA.out.2.2.2.2.2.2) HA.out.2.2.2.2.2.1
        have HR:=Lib.hid hrd
        simp only [e17]
        clear hrd hJ hl e14 r14 z14 r17 z17 s17 e17
        go_wp2_with fail
        go_roundg (n - k)
        case measure=>omega
        case rel =>
         have hkA : k<y.A.length:=by rw [HN.out.1]; exact hlt
         have et : y.A.take (k+1)=y.A.take k ++ [a]:=by rw [List.take_add_one,List.getElem?_eq_getElem hkA,HA.out.1]; rfl
         rw [HK.out.1] at et
         obtain ⟨lb2,u1,u2⟩:=HR.out
         exact ⟨k+1,_,_,lb2,rfl,by go_num,by omega,by omega,u1,by rw [et]; exact u2⟩
      ·obtain rfl : k=n:=by omega
       have HC:=Lib.hid (And.intro hC hK)
       clear hrv o2 o3 o4 hC hK
       go_wp2_with fail
       go_meet
       have h1:=HC.out.2
       rw [List.take_of_length_le (by have:=HN.out.1; omega)] at h1
       exact ⟨lb,vl,HC.out.1,h1⟩
    case rest =>
     obtain ⟨lb,vl,hC,hK⟩:=hcut
     have hKr : HRow wc 0 58 2 u5 y.A.length (cellsR y.A vl):=hK.rows
     obtain ⟨pl,cl,hu5,_,_⟩:=hKr.isslice
     subst hu5
     obtain ⟨pv,cv,rfl,_,_⟩:=hC.outer.isslice
     have y1:=nd_cell hC.box 1
     have yl:=lt_of_heap hC.box
     obtain ⟨g,cg,w6,hrun,hr6,hg6,ho6⟩:=app_one Tryz.underlying39 (ty:=39) infoR55 rfl (by decide) (by decide) wc 0 hC.outer (by have:=HT.out.2.2.2.2.2.2; have:=HC0.out.2.2.2.1; omega) (Nat.zero_le _) #[.slice pl y.A.length cl] rfl (by intro u hu; rw [List.mem_singleton.1 hu]; rfl)
     have hOov : (Value.slice pv cs.length cv).ownBlock≠some O:=fun e=>by have:=hC.o3 O e; rw [hC.o1] at this; cases this
     have hb6 : w6.heap[O]?=some (.cells #[.slice p4 nt c4,.slice pv cs.length cv,.slice p9 nt c9] 42):=(hg6.block O yl (fun e=>hOov e.symm)).trans hC.box
     have hmo:=hC.more (x:=⟨.slice pl y.A.length cl,y.nx,y.A,vl⟩) (by rw [HT.out.2.2.2.2.2.2]; exact HT.out.1) (by rw [HT.out.2.2.2.2.2.2]; exact HT.out.2.1) (by simp only [HT.out.2.2.2.2.2.2,HT.out.2.2.2.1]; exact hK) (by simp only [HT.out.2.2.2.2.2.2,HT.out.2.2.1]) hr6 hg6 ho6
     have u1:=nd_cell hb6 1
     have u2:=lt_of_heap hb6
     have u3:=frozen_of_row w6 O 1 _ _ hb6
     have HS:=Lib.hid hmo
     clear hC hK hr6 hg6 hb6 hmo x1 xl ho6 hOov
     go_wp2_with (at_builtin; refine wpList_append_run rfl (.tmp 71) (.tmp 73) 39 rfl rfl rfl hrun ?_)
     go_roundg (nt - tq)
     case measure=>omega
     case rel =>
      obtain ⟨lb2,u1⟩:=HS.out
      exact ⟨tq+1,_,lb2,_,by go_num,by omega,by omega,by rw [List.length_append,HT.out.2.2.2.2.2.2]; rfl,u1⟩
   ·obtain rfl : tq=nt:=by omega
    have HF:=Lib.hid (CpN.fin HD.out.1 hC (hcs.trans HC0.out.2.2.2.2.2.symm))
    have HL:=Lib.hid (And.intro (fun q hq=>(hC.lo q hq).1) hC.bl)
    obtain ⟨_,_,x1,xl⟩:=HG.out
    have x1:=(World.cell?_of_block (w:=W) (hC.bl.block b xl)).trans x1
    have xl:=Nat.lt_of_lt_of_le xl hC.bl.size
    clear hC
    go_wp2_with fail
    go_ret
    obtain ⟨q1,q2⟩:=HF.out
    exact ⟨O,_,_,lab,rfl,q1,q2,HL.out.1,HL.out.2⟩
end
end Go.Proofs.YtjepplacnaoomaaGreat
