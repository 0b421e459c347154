import Derived.Test.YthlccadnojnkaaaGreatZk13
import Derived.Deep.AppendLies
set_option maxHeartbeats 2000000
set_option maxRecDepth 100000
namespace Go.Proofs.YthlccadnojnkaaaGreat
open Go Go.RowKit Go.Proofs
theorem aGR:(Tryz.prog.info? 146).map (fun i=>(i.zero,i.size,i.bytes))=some (some (Value.agg #[Value.int .i64 (0),Value.int .i64 (0),Value.int .i64 (0)]),3,24):=by kernel_rfl
theorem aEU (y:World) (base:Nat) {v:Value} {n:Nat} {xs:List Value} (hr:HRow y base 146 3 v n xs) (hm:n+1<=1000000) (hb:base<=y.heap.size) (f t c:Int) :
  ∃ g cap w',(Builtin.append_ #[100,100] 100 #[v,.slice (some ⟨y.heap.size,0,none⟩) 1 1]).run Tryz.prog (y.alloc (.cells #[(Value.int .i64 (f)),(Value.int .i64 (t)),(Value.int .i64 (c))] 146))=.ok (.slice (some ⟨g,0,none⟩) (n+1) cap) w' /\
   HRow w' base 146 3 (.slice (some ⟨g,0,none⟩) (n+1) cap) (n+1) (xs++[(Value.int .i64 (f)),(Value.int .i64 (t)),(Value.int .i64 (c))])/\(y.alloc (.cells #[(Value.int .i64 (f)),(Value.int .i64 (t)),(Value.int .i64 (c))] 146)).grownBy w' v.ownBlock/\(v.ownBlock=some g∨y.heap.size<=g):=by
 obtain⟨i0,hi0,hz0,hz1,hz2⟩:=info_parts aGR;have hh:=heap_alloc_new y (.cells #[(Value.int .i64 (f)),(Value.int .i64 (t)),(Value.int .i64 (c))] 146)
 obtain⟨g,cap,w',h1,h2,h3,h4⟩:=aY (P:=Tryz.prog) (y.alloc (.cells #[(Value.int .i64 (f)),(Value.int .i64 (t)),(Value.int .i64 (c))] 146)) base 100 100 146 i0 _ 3 24 Tryz.underlying100 hi0 hz0 hz1 hz2 rfl (by decide) (hr.later (aD y _)) ⟨y.heap.size,0,none⟩ 1 1 [(Value.int .i64 (f)),(Value.int .i64 (t)),(Value.int .i64 (c))] rfl
  (by exact World.news_of_block hh) (by simp[Value.oneCell']) (by decide) (by unfold maxLen;omega) (by omega) (by rw[World.size_alloc];omega)
 exact⟨g,cap,w',h1,h2,h3,h4.imp id (fun h=>by rw[World.size_alloc] at h;omega)⟩
theorem wW {W:World} {mb n cap:Nat} {p:Option Addr} {l:List R2} {f t z:Int} (h:Mk W mb (.slice p n cap) l) (hn:l.length=n) (hn1:n<=65536) (hz:z=((els l).length:Int)) (he:addL l f t=l++[(f,t)]) (y:World) (hy:Below W.heap.size W y) :
  ∃ g cap' w3,(Builtin.append_ #[100,100] 100 #[.slice p n cap,.slice (some ⟨y.heap.size,0,none⟩) 1 1]).run Tryz.prog (y.alloc (.cells #[(Value.int .i64 (f)),(Value.int .i64 (t)),(Value.int .i64 (z))] 146))=.ok (.slice (some ⟨g,0,none⟩) (n+1) cap') w3 /\
   w3.cell? ⟨mb,0,none⟩=some (.slice p n cap)/\w3.frozen? ⟨mb,0,none⟩=false/\Added W mb (.slice p n cap) l f t (.returned (.tuple #[])) (w3.setCell ⟨mb,0,none⟩ (.slice (some ⟨g,0,none⟩) (n+1) cap')):=by
 have h1:=h.later hy;have h2:=h1.2;rw[hn] at h2;obtain⟨g,cap',w3,hrun,r3,g3,own⟩:=aEU y (mb+1) h2 (by omega) (by have:=h1.lt;omega) f t z;have hlt:=h1.lt;have hm3:w3.heap[mb]?=(y.alloc (.cells #[(Value.int .i64 (f)),(Value.int .i64 (t)),(Value.int .i64 (z))] 146)).heap[mb]?:=g3.block mb (by simp;omega) (fun e=>by have:=(h2.lt mb e.symm).1;omega);have hm4:w3.heap[mb]?=y.heap[mb]?:=hm3.trans (Below.heap_alloc _ _ _ hlt);have hc3:=h1.1.of hm4
 have hgm:g≠mb:=by
  rcases own with e|e
  ·have:=(h2.lt g e).1;omega
  omega
 refine⟨g,cap',w3,hrun,hc3.1,hc3.2,rfl,.slice (some ⟨g,0,none⟩) (n+1) cap',?_,?_,fun q hq=>?_⟩
 ·rw[he];refine⟨hc3.set _,?_⟩;rw[qT,eJ,<- hz,show (l++[(f,t)]).length=n+1 by simp[hn]];exact r3.of (fun k hk=>Below.heap_setCell _ _ _ _ (by cases hk;exact hgm))
 ·exact (((Chg.of_below hy).alloc _).grown g3 (fun k hk _=>.inr hk)).setCell (fun _=>.inl rfl) _
 cases hq;exact own.imp id (fun e=>Nat.le_trans hy.size e)
theorem zJ {W:World} {mb:Nat} {v:Value} {l:List R2} {f t:Int} (hl:Nrm l) (h:Mk W mb v l) (hf:f<t) (ht:∀ k r,l=k++[r]->¬ f<=r.2):Calls Tryz.prog 125 #[.pointer (some ⟨mb,0,none⟩),.int .i64 (f),.int .i64 (t)] W (Added W mb v l f t):=by
 have hn1:=cT hl
 have he:addL l f t=l++[(f,t)]:=by
  rcases eX l with rfl|⟨k,r,rfl⟩
  ·exact iU hf
  exact eY hf (ht k r rfl)
 have hcnt0:=(fun y (hy:Below W.heap.size W y)=>bB hl (h.mv.later hy));obtain⟨z,hz⟩:∃ z,z=((els l).length:Int):=⟨_,rfl⟩;rw[<- hz] at hcnt0;obtain⟨p,cap,rfl,hc,hcm⟩:=h.mv.slice;have hm0:∀ y,Below W.heap.size W y->y.cell? ⟨mb,0,none⟩=some (.slice p l.length cap):=(fun y hy=>(h.later hy).1.1);have hm0':=hm0 W (Below.refl _ _)
 have hlast:∀ k,l.length=k+1->∃ g b,p=some ⟨g,0,none⟩/\W.cell? ⟨g,k*3+1,none⟩=some (Value.int .i64 (b))/\¬ f<=b:=fun k hk=>by
  obtain⟨g,hg,_,_,c1,_⟩:=h.mv.run (j:=k) (by omega);refine⟨g,l[k].2,hg,c1,ht (l.take k) l[k] ?_⟩;have e:=List.take_succ_eq_append_getElem (l:=l) (i:=k) (by omega);rw[<- e,List.take_of_length_le (by omega)]
 obtain⟨n,hn⟩:∃ n,l.length=n:=⟨_,rfl⟩;have HA:Hid (∀ y,Below W.heap.size W y->_):=qAq (wW (by rw[hn] at h;exact h) hn (by omega) hz he);rw[hn] at hn1 hm0 hm0' hlast hcnt0 hc;simp only[hn];clear h hz he hn hl ht;cases n with
 | zero =>
  clear hlast;have hcnt:=qAq hcnt0;have hm1:=qAq hm0;clear hcnt0 hm0;go_enter Tryz.func125,Tryz.ntmps125;go_wp2_with fail;have hent:∀ a w,(callFunc 53 a).run Tryz.prog w=.ok (.enter 53 a) w:=(by intro a w;rfl);have hcc:=hcnt.out W.drew (Below.refl _ W).drew
  go_region_law (first
   | (refine cA hent [.agg #[.slice p 0 cap]] (by simp[Act.eval]) ?_;(with_reducible refine hcc.mono ?_);rintro e x2 ⟨rfl,hb2⟩;have hW2:Below W.heap.size W x2:=(Below.refl _ W).drew.trans hb2;obtain⟨g,cap',w3,hrun,c3,f3,hfin⟩:=HA.out x2 hW2;have m2:=hm1.out x2 hW2;have z2:mb<x2.heap.size:=World.block_lt_of_cell? x2 ⟨mb,0,none⟩ m2;have HF:=qAq hfin;clear hfin hW2 hb2;refine⟨_,rfl,?_⟩)
   | refine bJ rfl (.tmp 51) (.tmp 59) 100 rfl rfl rfl hrun ?_)
  all_goals
   go_wp2_with fail
   go_end0
   exact HF.out
 | succ n =>
  obtain⟨g0,b,rfl,c1,hb⟩:=hlast n rfl;have x1:(n:Int)<(n:Int)+1:=(by omega);have x2:n<n+1:=(by omega);have x3:(n:Int)<((n+1:Nat):Int):=(by omega);have hb':b<f:=(by omega);have hcnt:=qAq hcnt0;have hm1:=qAq hm0;clear hcnt0 hm0 hlast;go_enter Tryz.func125,Tryz.ntmps125;go_wp2_with fail;have hent:∀ a w,(callFunc 53 a).run Tryz.prog w=.ok (.enter 53 a) w:=(by intro a w;rfl);have hcc:=hcnt.out W.drew (Below.refl _ W).drew
  go_region_law (first
   | (refine cA hent [.agg #[.slice (some ⟨g0,0,none⟩) (n+1) cap]] (by simp[Act.eval]) ?_;(with_reducible refine hcc.mono ?_);rintro e x2 ⟨rfl,hb2⟩;have hW2:Below W.heap.size W x2:=(Below.refl _ W).drew.trans hb2;obtain⟨g,cap',w3,hrun,c3,f3,hfin⟩:=HA.out x2 hW2;have m2:=hm1.out x2 hW2;have z2:mb<x2.heap.size:=World.block_lt_of_cell? x2 ⟨mb,0,none⟩ m2;have HF:=qAq hfin;clear hfin hW2 hb2;refine⟨_,rfl,?_⟩)
   | refine bJ rfl (.tmp 51) (.tmp 59) 100 rfl rfl rfl hrun ?_)
  all_goals
   go_wp2_with fail
   go_end0
   exact HF.out
theorem dD {W:World} {mb:Nat} {v:Value} {l:List R2} {f t:Int} (hl:Nrm l) (h:Mk W mb v l):Calls Tryz.prog 125 #[.pointer (some ⟨mb,0,none⟩),.int .i64 (f),.int .i64 (t)] W (Added W mb v l f t):=by
 by_cases hf:f<t
 ·rcases eX l with rfl|⟨k,r,rfl⟩
  ·exact zJ hl h hf (fun k r e=>by simp at e)
  by_cases ht:f<=r.2
  ·exact aAY h hf ht (cT hl.left)
  exact zJ hl h hf (fun k' r' e=>by
   have:=List.append_inj' e rfl
   rw[List.cons.injEq] at this;rw[<- this.2.1];exact ht)
 exact aGQ h hf
theorem mG (W:World):Mk (W.alloc (.cells #[.slice none 0 0] 102)) W.heap.size (.slice none 0 0) []:=⟨Cell.new W _ 102,HRow.nil⟩
def IsMap (P:Int->Bool) (W:World) (e:Ending) (w':World):Prop:=∃ v l,e=.returned (.agg #[v])/\Mv w' v l/\Nrm l/\Is l P/\Below W.heap.size W w'
theorem qV {W x:World} {rb mb:Nat} {v:Value} {l:List R2} {P:Int->Bool} (h:Mk x mb v l) (hr:rb<mb) (hl:Nrm l) (hP:Is l P) (hb:Below W.heap.size W x) (hrb:W.heap.size<=rb) :
  IsMap P W (.returned (.agg #[v])) (x.setCell ⟨rb,0,none⟩ v) :=
 ⟨v,l,rfl,HRow.of h.mv (fun k hk=>Below.heap_setCell _ _ _ _ (by have:=(h.2.lt k hk).1;show k≠rb;omega)),hl,hP,hb.setCell hrb _⟩
theorem Mk.below {W x y:World} {mb:Nat} {v:Value} {l:List R2} (h:Mk x mb v l) (hc:Chg (fun b=>b=mb∨v.ownBlock=some b) x y) (hb:Below W.heap.size W x) (hm:W.heap.size<=mb):Below W.heap.size W y :=
 hb.trans (hc.below hb.size (fun b hlt hs=>by
  rcases hs with rfl|hs
  ·omega
  ·have:=(h.2.lt b hs).1;omega))
theorem Mk.keep {x y:World} {mb:Nat} {v:Value} {l:List R2} (h:Mk x mb v l) (hc:Chg (fun b=>b=mb∨v.ownBlock=some b) x y) {b:Nat} (hb:b<mb):y.heap[b]?=x.heap[b]? :=
 hc.block b (by have:=h.lt;omega) (fun hs=>by
  rcases hs with rfl|hs
  ·omega
  ·have:=(h.2.lt b hs).1;omega)
theorem Mk.slc {W:World} {mb:Nat} {v:Value} {l:List R2} (h:Mk W mb v l):∃ p n c,v=.slice p n c:=by
 obtain⟨p,c,e,_⟩:=h.2.isslice;exact⟨p,_,c,e⟩
def spanP (a b x:Int):Bool:=decide (0<=x/\x<65536/\a<=x/\x<b)
theorem aIw (W:World) (va vb:Value):∃ W4:World,(((W.alloc (.cells #[va] 102)).alloc (.cells #[vb] 102)).alloc (.cells #[.slice none 0 0] 102)).alloc (.cells #[.slice none 0 0] 102)=W4/\Below W.heap.size W W4 /\
  W4.heap[W.heap.size]?=some (.cells #[va] 102)/\W4.heap[W.heap.size+1]?=some (.cells #[vb] 102)/\W4.heap[W.heap.size+1+1]?=some (.cells #[.slice none 0 0] 102)/\Mk W4 (W.heap.size+1+1+1) (.slice none 0 0) []:=by
 refine⟨_,rfl,(((aD W _).alloc (by simp) _).alloc (by simp;omega) _).alloc (by simp;omega) _,?_,?_,?_,?_⟩
 ·exact (Below.heap_alloc _ _ _ (by simp;omega)).trans ((Below.heap_alloc _ _ _ (by simp;omega)).trans ((Below.heap_alloc _ _ _ (by simp)).trans (heap_alloc_new W _)))
 ·have:=heap_alloc_new (W.alloc (.cells #[va] 102)) (.cells #[vb] 102)
  rw[World.size_alloc] at this;exact (Below.heap_alloc _ _ _ (by simp)).trans ((Below.heap_alloc _ _ _ (by simp)).trans this)
 ·have:=heap_alloc_new ((W.alloc (.cells #[va] 102)).alloc (.cells #[vb] 102)) (.cells #[.slice none 0 0] 102)
  rw[World.size_alloc,World.size_alloc] at this;exact (Below.heap_alloc _ _ _ (by simp)).trans this
 have:=mG (((W.alloc (.cells #[va] 102)).alloc (.cells #[vb] 102)).alloc (.cells #[.slice none 0 0] 102))
 rw[World.size_alloc,World.size_alloc,World.size_alloc] at this;exact this
theorem Mk.below' {x y:World} {mb:Nat} {v:Value} {l:List R2} (h:Mk x mb v l) (hc:Chg (fun b=>b=mb∨v.ownBlock=some b) x y):Below mb x y :=
 hc.below (Nat.le_of_lt h.lt) (fun b hlt hs=>by
  rcases hs with rfl|hs
  ·omega
  ·have:=(h.2.lt b hs).1;omega)
theorem aGS {la lb:List R2} {va vb:Value} {P Q:Int->Bool} {W:World} (ha:Nrm la) (hb:Nrm lb) (hva:Mv W va la) (hvb:Mv W vb lb) (hP:Is la P) (hQ:Is lb Q) :
  Calls Tryz.prog 111 #[.agg #[va],.agg #[vb]] W (IsMap (fun x=>P x || Q x) W):=by
 obtain⟨W4,hW4,hB,h0,h1,h2,hm⟩:=aIw W va vb;have hla:=cT ha;have hlb:=cT hb;obtain⟨pa,ca,rfl,_,_⟩:=hva.slice;obtain⟨pb,cb,rfl,_,_⟩:=hvb.slice;obtain⟨S,hS⟩:∃ S,W.heap.size=S:=⟨_,rfl⟩;have HW:=qAq (qBq hva (qBq hvb (qBq hB hS)));have H0:=qAq (qBq h0 (qBq h1 h2));rw[hS] at hm H0;obtain⟨na,hna⟩:∃ na,la.length=na:=⟨_,rfl⟩;obtain⟨nb,hnb⟩:∃ nb,lb.length=nb:=⟨_,rfl⟩;have HN:=qAq (qBq hna (qBq hnb (qBq ha (qBq hb (qBq hP hQ)))));rw[hna] at hla H0;rw[hnb] at hlb H0;have HM:=qAq hm;have HW4:=qAq hW4;clear hva hvb hB h0 h1 h2 hm hW4 hna hnb ha hb hP hQ hS;go_enter Tryz.func111,Tryz.ntmps111
 go_upto_block 0 with fail
 rw[HW4.out,HW.out.2.2.2,HN.out.1,HN.out.2.1];clear HW4;obtain⟨mb,hmb⟩:∃ mb,S+1+1+1=mb:=⟨_,rfl⟩;rw[hmb] at HM ⊢;have HB:=qAq hmb;clear hmb;go_wp2_with fail;go_loopg [6,7] (na+nb+1) (fun gh iv kv w=>∃ (i k:Nat) (v:Value) (m:List R2),iv=.int .i64 (i:Int)/\kv=.int .i64 (k:Int)/\i<=na/\k<=nb/\na+nb+1<=i+k+gh/\OrI la lb m i k/\Mk w mb v m/\Below mb W4 w)
 case atStart=>exact⟨0,0,_,_,rfl,rfl,Nat.zero_le _,Nat.zero_le _,by omega,OrI.start la lb,HM.out,Below.refl _ _⟩
 obtain⟨i,k,v,m,rfl,rfl,hi,hk,hg,hI,hM,hBw⟩:=hrel;have hL:=H0.out;have z0:=(hBw.block S (by have:=HB.out;omega)).trans hL.1;have z1:=(hBw.block (S+1) (by have:=HB.out;omega)).trans hL.2.1;have c0:=aA z0 0;have c1:=aA z1 0;have y0:S<wr.heap.size:=aC z0;have y1:S+1<wr.heap.size:=aC z1;have HR:=qAq (qBq hI (qBq hM (qBq hBw (qBq z0 z1))));clear hL hM hBw z0 z1;by_cases hlt:i<na∨k<nb
 ·have hWb:Below W.heap.size W wr:=HW.out.2.2.1.trans (HR.out.2.2.1.mono (by rw[HW.out.2.2.2];have:=HB.out;omega));have va:=(fun h:i<na=>(HW.out.1.later hWb).run (j:=i) (by rw[HN.out.1];exact h));have vb:=(fun h:k<nb=>(HW.out.2.1.later hWb).run (j:=k) (by rw[HN.out.2.1];exact h));have HQ:=qAq (qBq hI (qBq hI.nrm hWb));have HV:=qAq (qBq va vb);clear va vb hI hWb;rcases Nat.lt_or_ge k nb with hk1|hk1
  ·have hkb:k<lb.length:=(by rw[HN.out.2.1];exact hk1);obtain⟨gb,rfl,hgb,b0,b1,b2⟩:=HV.out.2 hk1;obtain⟨s,hs⟩:∃ s,lb[k]=s:=⟨_,rfl⟩;rw[hs] at b0 b1;have HSB:=qAq hs;clear hs b2;obtain⟨f2,t2⟩:=s;have b0:wr.cell? ⟨gb,k*3,none⟩=some (Value.int .i64 (f2)):=b0;have b1:wr.cell? ⟨gb,k*3+1,none⟩=some (Value.int .i64 (t2)):=b1;have hneb:((k:Int)==(nb:Int))=false:=(by simp;omega);rcases Nat.lt_or_ge i na with hi1|hi1
   ·have hia:i<la.length:=(by rw[HN.out.1];exact hi1);obtain⟨ga,rfl,hga,a0,a1,a2⟩:=HV.out.1 hi1;obtain⟨r,hr⟩:∃ r,la[i]=r:=⟨_,rfl⟩;rw[hr] at a0 a1;have HRA:=qAq hr;clear hr a2;obtain⟨f1,t1⟩:=r;have a0:wr.cell? ⟨ga,i*3,none⟩=some (Value.int .i64 (f1)):=a0;have a1:wr.cell? ⟨ga,i*3+1,none⟩=some (Value.int .i64 (t1)):=a1;by_cases hff:f1<f2
    ·have hd:decide (f1<f2)=true:=decide_eq_true hff
     have HL:Hid (OrI la lb (addL m f1 t1) (i+1) k):=qAq (by
      have h:=HQ.out.1.left HN.out.2.2.1 hia (pB HN.out.2.2.2.1 hkb (by rw[HRA.out,HSB.out];show f1<=f2;omega));rw[HRA.out] at h;exact h)
     go_upto_region 4 with fail
     go_quiet (fail)
     go_upto_region 5 with fail;have hadd:=(fun y (hy:Below wr.heap.size wr y)=>dD (f:=f1) (t:=t1) HQ.out.2.1 (HR.out.2.1.later hy));have hS:∀ w,Below wr.heap.size wr w->w.cell? ⟨S,0,none⟩=some (.slice (some ⟨ga,0,none⟩) na ca)/\w.cell? ⟨ga,i*3,none⟩=some (Value.int .i64 (f1))/\w.cell? ⟨ga,i*3+1,none⟩=some (Value.int .i64 (t1)):=(fun w hw=>⟨aM hw c0,aM hw a0,aM hw a1⟩);have HS:=qAq hS;clear hS;have hSm:S<mb:=(by have:=HB.out;omega);have hgm:ga<mb:=by have:=(HRow.lt HW.out.1 ga rfl).2;have h2:=HB.out;have h3:=HW.out.2.2.2;omega
     go_region_held3 (fun w=>w.cell? ⟨S,0,none⟩=some (.slice (some ⟨ga,0,none⟩) na ca)/\w.cell? ⟨ga,i*3,none⟩=some (Value.int .i64 (f1))/\w.cell? ⟨ga,i*3+1,none⟩=some (Value.int .i64 (t1))) (first|exact HS.out _ (Below.refl _ wr) | exact HS.out _ (Below.refl _ wr).drew|exact HS.out _ (aG wr _) | exact HS.out _ (aG wr _).drew|exact⟨(HK.out.2.cell (p:=⟨S,0,none⟩) hSm).trans c0,(HK.out.2.cell (p:=⟨ga,i*3,none⟩) hgm).trans a0,(HK.out.2.cell (p:=⟨ga,i*3+1,none⟩) hgm).trans a1⟩) (first | (go_at_call 125;(with_reducible refine (hadd _ (aG wr _)).mono ?_);rintro e x1 ⟨rfl,v1,k1,g1,o1⟩;have HK:=qAq (qBq k1 ((HR.out.2.1.later (aG wr _)).below' g1));clear k1 g1 o1 hadd))
     go_wp2_with fail;go_roundg (na+nb-(i+k))
     case measure=>omega
     have hBx:Below mb W4 x1:=(HR.out.2.2.1.trans ((aG wr _).mono (Nat.le_of_lt HR.out.2.1.lt))).trans HK.out.2;exact⟨i+1,k,v1,_,by go_num,rfl,by omega,by omega,by omega,HL.out,HK.out.1,hBx⟩
    have hd:decide (f1<f2)=false:=decide_eq_false hff
    have HL:Hid (OrI la lb (addL m f2 t2) i (k+1)):=qAq (by
     have h:=HQ.out.1.right HN.out.2.2.2.1 hkb (pB HN.out.2.2.1 hia (by rw[HRA.out,HSB.out];show f2<=f1;omega));rw[HSB.out] at h;exact h)
    go_upto_region 4 with fail
    go_quiet (fail)
    go_upto_region 7 with fail;have hadd:=(fun y (hy:Below wr.heap.size wr y)=>dD (f:=f2) (t:=t2) HQ.out.2.1 (HR.out.2.1.later hy));have hS:∀ w,Below wr.heap.size wr w->w.cell? ⟨S+1,0,none⟩=some (.slice (some ⟨gb,0,none⟩) nb cb)/\w.cell? ⟨gb,k*3,none⟩=some (Value.int .i64 (f2))/\w.cell? ⟨gb,k*3+1,none⟩=some (Value.int .i64 (t2)):=(fun w hw=>⟨aM hw c1,aM hw b0,aM hw b1⟩);have HS:=qAq hS;clear hS;have hSm:S+1<mb:=(by have:=HB.out;omega);have hgm:gb<mb:=by have:=(HRow.lt HW.out.2.1 gb rfl).2;have h2:=HB.out;have h3:=HW.out.2.2.2;omega
    go_region_held3 (fun w=>w.cell? ⟨S+1,0,none⟩=some (.slice (some ⟨gb,0,none⟩) nb cb)/\w.cell? ⟨gb,k*3,none⟩=some (Value.int .i64 (f2))/\w.cell? ⟨gb,k*3+1,none⟩=some (Value.int .i64 (t2))) (first|exact HS.out _ (Below.refl _ wr) | exact HS.out _ (Below.refl _ wr).drew|exact HS.out _ (aG wr _) | exact HS.out _ (aG wr _).drew|exact⟨(HK.out.2.cell (p:=⟨S+1,0,none⟩) hSm).trans c1,(HK.out.2.cell (p:=⟨gb,k*3,none⟩) hgm).trans b0,(HK.out.2.cell (p:=⟨gb,k*3+1,none⟩) hgm).trans b1⟩) (first | (go_at_call 125;(with_reducible refine (hadd _ (aG wr _)).mono ?_);rintro e x1 ⟨rfl,v1,k1,g1,o1⟩;have HK:=qAq (qBq k1 ((HR.out.2.1.later (aG wr _)).below' g1));clear k1 g1 o1 hadd))
    go_wp2_with fail;go_roundg (na+nb-(i+k))
    case measure=>omega
    have hBx:Below mb W4 x1:=(HR.out.2.2.1.trans ((aG wr _).mono (Nat.le_of_lt HR.out.2.1.lt))).trans HK.out.2;exact⟨i,k+1,v1,_,rfl,by go_num,by omega,by omega,by omega,HL.out,HK.out.1,hBx⟩
   have hi2:¬ i<na:=(by omega);have hd:decide ((i:Int)<(na:Int))=false:=decide_eq_false (by omega)
   have HL:Hid (OrI la lb (addL m f2 t2) i (k+1)):=qAq (by
    have h:=HQ.out.1.right HN.out.2.2.2.1 hkb (fun a ha=>by rw[List.drop_eq_nil_of_le (by rw[HN.out.1];exact hi1)] at ha;cases ha);rw[HSB.out] at h;exact h)
   go_upto_region 4 with fail
   go_quiet (fail)
   go_upto_region 7 with fail;have hadd:=(fun y (hy:Below wr.heap.size wr y)=>dD (f:=f2) (t:=t2) HQ.out.2.1 (HR.out.2.1.later hy));have hS:∀ w,Below wr.heap.size wr w->w.cell? ⟨S+1,0,none⟩=some (.slice (some ⟨gb,0,none⟩) nb cb)/\w.cell? ⟨gb,k*3,none⟩=some (Value.int .i64 (f2))/\w.cell? ⟨gb,k*3+1,none⟩=some (Value.int .i64 (t2)):=(fun w hw=>⟨aM hw c1,aM hw b0,aM hw b1⟩);have HS:=qAq hS;clear hS;have hSm:S+1<mb:=(by have:=HB.out;omega);have hgm:gb<mb:=by have:=(HRow.lt HW.out.2.1 gb rfl).2;have h2:=HB.out;have h3:=HW.out.2.2.2;omega
   go_region_held3 (fun w=>w.cell? ⟨S+1,0,none⟩=some (.slice (some ⟨gb,0,none⟩) nb cb)/\w.cell? ⟨gb,k*3,none⟩=some (Value.int .i64 (f2))/\w.cell? ⟨gb,k*3+1,none⟩=some (Value.int .i64 (t2))) (first|exact HS.out _ (Below.refl _ wr) | exact HS.out _ (Below.refl _ wr).drew|exact HS.out _ (aG wr _) | exact HS.out _ (aG wr _).drew|exact⟨(HK.out.2.cell (p:=⟨S+1,0,none⟩) hSm).trans c1,(HK.out.2.cell (p:=⟨gb,k*3,none⟩) hgm).trans b0,(HK.out.2.cell (p:=⟨gb,k*3+1,none⟩) hgm).trans b1⟩) (first | (go_at_call 125;(with_reducible refine (hadd _ (aG wr _)).mono ?_);rintro e x1 ⟨rfl,v1,k1,g1,o1⟩;have HK:=qAq (qBq k1 ((HR.out.2.1.later (aG wr _)).below' g1));clear k1 g1 o1 hadd))
   go_wp2_with fail;go_roundg (na+nb-(i+k))
   case measure=>omega
   have hBx:Below mb W4 x1:=(HR.out.2.2.1.trans ((aG wr _).mono (Nat.le_of_lt HR.out.2.1.lt))).trans HK.out.2;exact⟨i,k+1,v1,_,rfl,by go_num,by omega,by omega,by omega,HL.out,HK.out.1,hBx⟩
  have hi1:i<na:=(by omega);have hia:i<la.length:=(by rw[HN.out.1];exact hi1);have hkb:lb.length<=k:=(by rw[HN.out.2.1];exact hk1);obtain⟨ga,rfl,hga,a0,a1,a2⟩:=HV.out.1 hi1;obtain⟨r,hr⟩:∃ r,la[i]=r:=⟨_,rfl⟩;rw[hr] at a0 a1;have HRA:=qAq hr;clear hr a2;obtain⟨f1,t1⟩:=r;have a0:wr.cell? ⟨ga,i*3,none⟩=some (Value.int .i64 (f1)):=a0;have a1:wr.cell? ⟨ga,i*3+1,none⟩=some (Value.int .i64 (t1)):=a1;have hneb:((k:Int)==(nb:Int))=true:=by simp;omega
  have HL:Hid (OrI la lb (addL m f1 t1) (i+1) k):=qAq (by
   have h:=HQ.out.1.left HN.out.2.2.1 hia (fun a ha=>by rw[List.drop_eq_nil_of_le hkb] at ha;cases ha);rw[HRA.out] at h;exact h)
  go_upto_region 4 with fail
  go_quiet (fail)
  go_upto_region 5 with fail;have hadd:=(fun y (hy:Below wr.heap.size wr y)=>dD (f:=f1) (t:=t1) HQ.out.2.1 (HR.out.2.1.later hy));have hS:∀ w,Below wr.heap.size wr w->w.cell? ⟨S,0,none⟩=some (.slice (some ⟨ga,0,none⟩) na ca)/\w.cell? ⟨ga,i*3,none⟩=some (Value.int .i64 (f1))/\w.cell? ⟨ga,i*3+1,none⟩=some (Value.int .i64 (t1)):=(fun w hw=>⟨aM hw c0,aM hw a0,aM hw a1⟩);have HS:=qAq hS;clear hS;have hSm:S<mb:=(by have:=HB.out;omega);have hgm:ga<mb:=by have:=(HRow.lt HW.out.1 ga rfl).2;have h2:=HB.out;have h3:=HW.out.2.2.2;omega
  go_region_held3 (fun w=>w.cell? ⟨S,0,none⟩=some (.slice (some ⟨ga,0,none⟩) na ca)/\w.cell? ⟨ga,i*3,none⟩=some (Value.int .i64 (f1))/\w.cell? ⟨ga,i*3+1,none⟩=some (Value.int .i64 (t1))) (first|exact HS.out _ (Below.refl _ wr) | exact HS.out _ (Below.refl _ wr).drew|exact HS.out _ (aG wr _) | exact HS.out _ (aG wr _).drew|exact⟨(HK.out.2.cell (p:=⟨S,0,none⟩) hSm).trans c0,(HK.out.2.cell (p:=⟨ga,i*3,none⟩) hgm).trans a0,(HK.out.2.cell (p:=⟨ga,i*3+1,none⟩) hgm).trans a1⟩) (first | (go_at_call 125;(with_reducible refine (hadd _ (aG wr _)).mono ?_);rintro e x1 ⟨rfl,v1,k1,g1,o1⟩;have HK:=qAq (qBq k1 ((HR.out.2.1.later (aG wr _)).below' g1));clear k1 g1 o1 hadd))
  go_wp2_with fail;go_roundg (na+nb-(i+k))
  case measure=>omega
  have hBx:Below mb W4 x1:=(HR.out.2.2.1.trans ((aG wr _).mono (Nat.le_of_lt HR.out.2.1.lt))).trans HK.out.2;exact⟨i+1,k,v1,_,by go_num,rfl,by omega,by omega,by omega,HL.out,HK.out.1,hBx⟩
 have h1:¬ i<na:=(by omega);have h2:¬ k<nb:=(by omega);have hfin:=hI.fin (by rw[HN.out.1];omega) (by rw[HN.out.2.1];omega);have z2:=(HR.out.2.2.1.block (S+1+1) (by have:=HB.out;omega)).trans H0.out.2.2;have d0:=aA z2 0;have df:=frozen_of_row wr (S+1+1) 0 _ _ z2;have m0:=HR.out.2.1.1.1;obtain⟨p1,n1,cp1,rfl⟩:=HR.out.2.1.slc;have s0:=World.cell?_setCell_same wr ⟨S+1+1,0,none⟩ (.slice p1 n1 cp1) d0
 have hIs:Is m (fun x=>P x || Q x):=fun x=>by
  rw[hfin,Bool.or_eq_true,HN.out.2.2.2.2.1 x,HN.out.2.2.2.2.2 x]
 have hWb:Below W.heap.size W wr:=HW.out.2.2.1.trans (HR.out.2.2.1.mono (by rw[HW.out.2.2.2];have:=HB.out;omega));have HE:=qAq (qV (P:=fun x=>P x || Q x) HR.out.2.1 (by have:=HB.out;omega) hI.nrm hIs hWb (show W.heap.size<=S+1+1 by rw[HW.out.2.2.2];omega));clear hlt hI hfin z2 hIs hWb
 all_goals
  go_wp2_with fail;refine bodyPost_ret (v:=.agg #[.slice p1 n1 cp1]) (by simp[results,Tryz.results111,go_sem,s0]) rfl ?_;exact HE.out
def notP (P:Int->Bool) (n x:Int):Bool:=decide (0<=x/\x<n/\x<65536)&&!P x
theorem aIx (W:World) (va:Value):∃ W3:World,((W.alloc (.cells #[va] 102)).alloc (.cells #[.slice none 0 0] 102)).alloc (.cells #[.slice none 0 0] 102)=W3/\Below W.heap.size W W3 /\
  W3.heap[W.heap.size]?=some (.cells #[va] 102)/\W3.heap[W.heap.size+1]?=some (.cells #[.slice none 0 0] 102)/\Mk W3 (W.heap.size+1+1) (.slice none 0 0) []:=by
 refine⟨_,rfl,((aD W _).alloc (by simp) _).alloc (by simp;omega) _,?_,?_,?_⟩
 ·exact (Below.heap_alloc _ _ _ (by simp;omega)).trans ((Below.heap_alloc _ _ _ (by simp)).trans (heap_alloc_new W _))
 ·have:=heap_alloc_new (W.alloc (.cells #[va] 102)) (.cells #[.slice none 0 0] 102)
  rw[World.size_alloc] at this;exact (Below.heap_alloc _ _ _ (by simp)).trans this
 have:=mG ((W.alloc (.cells #[va] 102)).alloc (.cells #[.slice none 0 0] 102))
 rw[World.size_alloc,World.size_alloc] at this;exact this
theorem aGT {la m:List R2} {P:Int->Bool} {n N:Int} (hP:Is la P) (hN:N=min n 65536) (h:∀ x,mem m x↔0<=x/\x<N/\¬ mem la x):Is m (notP P n):=fun x=>by
 have:=hP x
 unfold notP;rw[h,this,Bool.and_eq_true,decide_eq_true_eq,Bool.not_eq_true'];constructor
 ·rintro ⟨a,b,c⟩;exact⟨by omega,by simpa using c⟩
 ·rintro ⟨⟨a,b,c⟩,d⟩;exact⟨a,by omega,by rw[d];decide⟩
theorem aEV {la:List R2} {va:Value} {P:Int->Bool} {W:World} (ha:Nrm la) (hva:Mv W va la) (hP:Is la P) (n:Int) :
  Calls Tryz.prog 89 #[.agg #[va],.int .i64 (n)] W (IsMap (notP P n) W):=by
 obtain⟨W3,hW3,hB,h0,h1,hm⟩:=aIx W va;have hla:=cT ha;obtain⟨pa,ca,rfl,_,_⟩:=hva.slice;obtain⟨S,hS⟩:∃ S,W.heap.size=S:=⟨_,rfl⟩;have HW:=qAq (qBq hva (qBq hB hS));have H0:=qAq (qBq h0 h1);rw[hS] at hm H0;obtain⟨na,hna⟩:∃ na,la.length=na:=⟨_,rfl⟩;have HN:=qAq (qBq hna (qBq ha hP));rw[hna] at hla H0;have HM:=qAq hm;have HW3:=qAq hW3;clear hva hB h0 h1 hm hW3 hna ha hP hS;go_enter Tryz.func89,Tryz.ntmps89;go_upto_region 1 with fail
 go_cut [1] from 200 to 200 (fun nv w=>nv=.int .i64 (min n 65536)/\w=(W.alloc (.cells #[.slice pa la.length ca] 102)).alloc (.cells #[.slice none 0 0] 102))
 case first =>
  rcases Int.lt_or_le 65536 n with hn|hn
  ·go_wp2_with fail;go_meet;exact⟨by congr 1 <;> omega,rfl⟩
  go_wp2_with fail;go_meet;exact⟨by congr 1 <;> omega,rfl⟩
 obtain⟨rfl,rfl⟩:=hcut;obtain⟨N,hN⟩:∃ N,N=min n 65536:=⟨_,rfl⟩;rw[<- hN];have hN2:N<=65536:=(by omega);have HNN:=qAq hN;clear hN
 go_upto_block 0 with fail
 rw[HW3.out,HW.out.2.2,HN.out.1];clear HW3;obtain⟨mb,hmb⟩:∃ mb,S+1+1=mb:=⟨_,rfl⟩;rw[hmb] at HM ⊢;have HB:=qAq hmb;clear hmb;go_wp2_with fail;go_loopg [6,14] (na+1) (fun gh av jv w=>∃ (j:Nat) (at_:Int) (v:Value) (m:List R2),av=.int .i64 at_/\jv=.int .i64 (j:Int)/\j<=na/\na+1<=j+gh/\NotI la m N j at_/\Mk w mb v m/\Below mb W3 w)
 case atStart=>exact⟨0,0,_,_,rfl,rfl,Nat.zero_le _,by omega,NotI.start HN.out.2.1 N,HM.out,Below.refl _ _⟩
 obtain⟨j,at_,v,m,rfl,rfl,hj,hg,hI,hM,hBw⟩:=hrel;have z0:=(hBw.block S (by have:=HB.out;omega)).trans H0.out.1;have c0:=aA z0 0;have y0:S<wr.heap.size:=aC z0;have hWb:Below W.heap.size W wr:=HW.out.2.1.trans (hBw.mono (by rw[HW.out.2.2];have:=HB.out;omega));have HR:=qAq (qBq hI (qBq hM (qBq hBw (qBq z0 hWb))));clear hI hM hBw z0 hWb;by_cases hlt:j<na
 ·obtain⟨g,rfl,hg',a0,a1,a2⟩:=(HW.out.1.later HR.out.2.2.2.2).run (j:=j) (by rw[HN.out.1];exact hlt);have hja:j<la.length:=(by rw[HN.out.1];exact hlt);have hstep:=HR.out.1.step HN.out.2.1 hN2 hja;obtain⟨r,hr⟩:∃ r,la[j]=r:=⟨_,rfl⟩;simp only[hr] at a0 a1 hstep;generalize ((els (la.take j)).length:Int)=ra at a2;obtain⟨f1,t1⟩:=r;have HS:=qAq hstep;clear hstep hr;have hMc:=HR.out.2.1.later (aD wr (.cells #[(Value.int .i64 (f1)),(Value.int .i64 (t1)),(Value.int .i64 (ra))] 146));have hadd:=(fun f t=>dD (f:=f) (t:=t) HR.out.1.nrm hMc);have zr:=heap_alloc_new wr (.cells #[(Value.int .i64 (f1)),(Value.int .i64 (t1)),(Value.int .i64 (ra))] 146);have hown:∀ q,v.ownBlock=some q->q<wr.heap.size:=(fun q hq=>(HR.out.2.1.2.lt q hq).2);have hmbw:=HR.out.2.1.lt;have HC:=qAq (qBq hMc (qBq zr (qBq hown hmbw)));clear hMc zr hown;go_wp2_with (go_at_call 125;(with_reducible refine (hadd _ _).mono ?_);rintro e x1 ⟨rfl,v1,k1,g1,o1⟩;clear hadd;have yr:=(g1.block wr.heap.size (by simp) (fun h=>h.elim (fun h=>by omega) (fun h=>by have:=HC.out.2.2.1 _ h;omega))).trans HC.out.2.1;have q0:=aA yr 1;obtain⟨l1,hl1,k1⟩:∃ l1,l1=addL m at_ (min f1 N)/\Mk x1 mb v1 l1:=⟨_,by congr 1 <;> first|omega | (split <;> omega),k1⟩;subst hl1;have HK:=qAq (qBq k1 g1);clear k1 g1 o1 yr)
  all_goals
   go_roundg (na-j)
   case measure=>omega
   case rel =>
    have hBx:Below mb W3 x1:=(HR.out.2.2.1.trans ((aD wr _).mono (by omega))).trans (HC.out.1.below' HK.out.2);exact⟨j+1,t1,v1,_,rfl,by go_num,by omega,by omega,HS.out,HK.out.1,hBx⟩
 have hja:la.length<=j:=(by rw[HN.out.1];omega);obtain⟨hf,hn,hx⟩:=HR.out.1.fin hN2 hja;have hadd:=dD (f:=at_) (t:=N) HR.out.1.nrm HR.out.2.1;have z2:=(HR.out.2.2.1.block (S+1) (by have:=HB.out;omega)).trans H0.out.2;have HX:=qAq (qBq hn (qBq (aGT HN.out.2.2 HNN.out hx) z2));clear hf hn hx z2 c0;go_wp2_with (go_at_call 125;(with_reducible refine hadd.mono ?_);rintro e x1 ⟨rfl,v1,k1,g1,o1⟩;clear hadd;have kb:=(HR.out.2.1.keep g1 (b:=S+1) (by have:=HB.out;omega)).trans HX.out.2.2;have z0:=aA kb 0;have zf:=frozen_of_row x1 (S+1) 0 _ _ kb;obtain⟨p1,n1,cp1,rfl⟩:=k1.slc;have m0:=k1.1.1;have HK:=qAq (qBq k1 g1);clear k1 g1 o1 kb);have s0:=World.cell?_setCell_same x1 ⟨S+1,0,none⟩ (.slice p1 n1 cp1) z0;refine bodyPost_ret (v:=.agg #[.slice p1 n1 cp1]) (by simp[results,Tryz.results89,go_sem,s0]) rfl ?_;exact qV HK.out.1 (by have:=HB.out;omega) HX.out.1 HX.out.2.1 (HR.out.2.1.below HK.out.2 HR.out.2.2.2.2 (by rw[HW.out.2.2];have:=HB.out;omega)) (by rw[HW.out.2.2];omega)
def outP (P Q:Int->Bool) (x:Int):Bool:=P x&&!Q x
