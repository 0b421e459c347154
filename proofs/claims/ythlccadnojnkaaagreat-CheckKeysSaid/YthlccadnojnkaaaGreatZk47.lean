import Derived.Test.YthlccadnojnkaaaGreatZk42
import Derived.Test.YthlccadnojnkaaaGreatZk46
import Derived.Test.YthlccadnojnkaaaGreatZk45
set_option maxHeartbeats 8000000
set_option maxRecDepth 100000
namespace Go.Proofs.YthlccadnojnkaaaGreat
open Go Go.RowKit Go.Proofs Co Co.S
section
variable {t:T} {A:List R1} {c:Nat}
theorem uS (h:64<A.length):tooF t A=(5,0,e0):=by unfold tooF;rw[if_pos h]
theorem pZ (h:¬ 64<A.length) (hc:c<t.cols.length) (h1:40<wordN A c) (h0:∀ m,m<c->¬ 40<wordN A m):tooF t A=(5,0,(cAt t c).nm):=by
 unfold tooF;rw[if_neg h,aZ (p:=fun c=>decide (40<wordN A c)) hc (decide_eq_true h1) (fun j hj=>decide_eq_false (h0 j hj))]
theorem eU (h:¬ 64<A.length) (h0:∀ m,m<t.cols.length->¬ 40<wordN A m):tooF t A=(0,0,e0):=by
 unfold tooF;rw[if_neg h,aV (p:=fun c=>decide (40<wordN A c)) (fun j hj=>decide_eq_false (h0 j hj))]
theorem jM:wordN A c<=A.length:=by
 unfold wordN
 have:=List.length_filter_le (firstT (A.map fun a=>a.2.getD c z3)) (List.range A.length)
 rw[List.length_range] at this;exact this
end
theorem uT {W:World} {d:Nat} {ts:List T} {st:List DT} {O:Nat->Nat} (h:Dd W d ts st O) (hsz:Short ts) {j:Nat} (hj:j<ts.length) (hj':j<st.length) {cv dv:Value} (hT:RdT W cv dv ts[j]) (hnc:ts[j].cols.length<=1000) (hcx:∀ c (hc:c<ts[j].cols.length),ixC ts[j].cols ts[j].cols[c].nm=(c:Int)) (hAl:st[j].2.2.length<=1000) :
  Calls Tryz.prog 46 #[.pointer (some ⟨d,0,none⟩),.agg #[.string ts[j].nm,cv,.string ts[j].key,dv]] W fun e w'=>e=.returned (fltV (tooF ts[j] st[j].2.2).1 0 e0 (tooF ts[j] st[j].2.2).2.1 (tooF ts[j] st[j].2.2).2.2)/\Below W.heap.size W w':=by
 obtain⟨pc,cc,rfl,_,_⟩:=hT.c.slice;obtain⟨pd,cd,rfl,_,_⟩:=hT.d.slice;have b2:=aD W (.cells #[.string ts[j].nm,.slice pc ts[j].cols.length cc,.string ts[j].key,.slice pd ts[j].deps.length cd] 77);have k2:=heap_alloc_new W (.cells #[.string ts[j].nm,.slice pc ts[j].cols.length cc,.string ts[j].key,.slice pd ts[j].deps.length cd] 77);have z2:=World.size_alloc W (.cells #[.string ts[j].nm,.slice pc ts[j].cols.length cc,.string ts[j].key,.slice pd ts[j].deps.length cd] 77);obtain⟨wb,hwb⟩:∃ y,W.alloc (.cells #[.string ts[j].nm,.slice pc ts[j].cols.length cc,.string ts[j].key,.slice pd ts[j].deps.length cd] 77)=y:=⟨_,rfl⟩;rw[hwb] at b2 k2 z2;have b3:=aD wb (.cells zF 39);have k3:=heap_alloc_new wb (.cells zF 39);obtain⟨w1,hw1⟩:∃ y,wb.alloc (.cells zF 39)=y:=⟨_,rfl⟩;rw[hw1] at b3 k3;have hw1':(W.alloc (.cells #[.string ts[j].nm,.slice pc ts[j].cols.length cc,.string ts[j].key,.slice pd ts[j].deps.length cd] 77)).alloc (.cells zF 39)=w1:=(by rw[hwb,hw1]);obtain⟨F,hF⟩:∃ D,W.heap.size=D:=⟨_,rfl⟩;rw[hF] at k2;rw[z2,hF] at k3;have k2:=aE b3 k2;have hb1:=aB b2 b3;have htab:Calls Tryz.prog 29 #[.pointer (some ⟨d,0,none⟩),.string ts[j].nm] w1 fun e w'=>e=.returned (Value.pointer (some ⟨st[j].1,0,none⟩))/\w'=w1:=(h.later hb1).table hj (hsz _ (List.getElem_mem hj)) hj'
 obtain⟨lab,ht0,_⟩:=h.tab j hj hj';obtain⟨A,hAe⟩:∃ A,st[j].2.2=A:=⟨_,rfl⟩;have HLV:Hid (∀ w,Below W.heap.size W w->Calls Tryz.prog 52 #[.pointer (some ⟨st[j].1,0,none⟩)] w (IsV (idsP A) w)):=qAq (fun w hw=>by subst hAe;exact fD (ht0.later hw));have hsrt:A.Pairwise (fun a b=>a.1<b.1):=(by subst hAe;obtain⟨i0,_,hi⟩:=ht0;exact hi.srt);have HCT:Hid (∀ w (p:Option Addr) (n c:Nat),Vm w (.slice p n c) (idsP A)->Calls Tryz.prog 53 #[.agg #[.slice p n c]] w fun e w2=>e=.returned (.int .i64 (A.length:Int))/\Below w.heap.size w w2):=qAq (fun w p n c hv=>kL hv hsrt)
 have HWD:Hid (∀ w,Below W.heap.size W w->∀ c,c<ts[j].cols.length->Calls Tryz.prog 82 #[.pointer (some ⟨st[j].1,0,none⟩),.string (cAt ts[j] c).nm] w fun e w'=>e=.returned (.int .i64 (wordN A c:Int))/\Below w.heap.size w w'):=qAq (fun w hw c hc=>by
  subst hAe;rw[oA hc];exact rO (ht0.later hw) hc (hcx c hc))
 have HCOL:Hid (∀ y,Below W.heap.size W y->∀ k,k<ts[j].cols.length->∃ b off,pc=some ⟨b,off,none⟩/\b<y.heap.size/\y.cell? ⟨b,off+k*4,none⟩=some (.string (cAt ts[j] k).nm)/\y.cell? ⟨b,off+k*4+1,none⟩=some (.int .i64 (cAt ts[j] k).kd)/\y.cell? ⟨b,off+k*4+2,none⟩=some (.bool (cAt ts[j] k).mu)/\y.cell? ⟨b,off+k*4+3,none⟩=some (.string (cAt ts[j] k).tgt)):=qAq (fun y hy k hk=>by
  rw[oA hk];obtain⟨b,off,e,h1,h2,h3,h4,h5⟩:=RdC.col (hT.c.later hy) hk;exact⟨b,off,e,h1,h2,h3,h4,h5⟩)
 rw[hAe] at hAl ⊢;obtain⟨t,ht⟩:∃ t,ts[j]=t:=⟨_,rfl⟩;obtain⟨tb,htbe⟩:∃ x,st[j].1=x:=⟨_,rfl⟩;simp only[ht,htbe] at htab HLV HWD HCOL hw1' k2 hnc ⊢;obtain⟨nc,hncc⟩:∃ n,t.cols.length=n:=⟨_,rfl⟩;obtain⟨nd,hnd⟩:∃ n,t.deps.length=n:=⟨_,rfl⟩;have hcc:=hncc;simp only[hncc,hnd] at HWD HCOL hw1' k2 hnc ⊢;obtain⟨nm,hnm⟩:∃ x,t.nm=x:=⟨_,rfl⟩;obtain⟨key,hkey⟩:∃ x,t.key=x:=⟨_,rfl⟩;simp only[hnm,hkey] at htab hw1' k2 ⊢;obtain⟨na,hna⟩:∃ n,A.length=n:=⟨_,rfl⟩;rw[hna] at HCT hAl;have hnai:(na:Int)<=1000:=(by omega);have hnci:(nc:Int)<=1000:=(by omega);obtain⟨res,hres⟩:∃ r,tooF t A=r:=⟨_,rfl⟩;rw[hres];have HRES:=qAq (qBq hres (qBq hcc hna))
 have FIN:Hid (∀ (w2 wz:World) (er id:Int) (col:ByteArray),Below w1.heap.size w1 w2->((((w2.setCell ⟨F+1,0,none⟩ (.int .i64 er)).setCell ⟨F+1,1,none⟩ (.int .i64 0)).setCell ⟨F+1,2,none⟩ (.string e0)).setCell ⟨F+1,3,none⟩ (.int .i64 id)).setCell ⟨F+1,4,none⟩ (.string col)=wz ->
   (wz.cell? ⟨F+1,0,none⟩=some (.int .i64 er)/\wz.cell? ⟨F+1,1,none⟩=some (.int .i64 0)/\wz.cell? ⟨F+1,2,none⟩=some (.string e0)/\wz.cell? ⟨F+1,3,none⟩=some (.int .i64 id)/\wz.cell? ⟨F+1,4,none⟩=some (.string col))/\Below W.heap.size W wz):=qAq (by
  rintro w2 wz er id col hb rfl;have h5:=gS (aE hb k3) (.int .i64 er) (.int .i64 0) (.string e0) (.int .i64 id) (.string col);have hg:=aW w2 (F+1) (.int .i64 er) (.int .i64 0) (.string e0) (.int .i64 id) (.string col);refine⟨⟨aA h5 0,aA h5 1,aA h5 2,aA h5 3,aA h5 4⟩,?_⟩;have hbw:=aB hb1 hb;exact hbw.trans ⟨hg.os,hg.tape,hg.output,hg.size,fun q hq=>hg.block q (Nat.lt_of_lt_of_le hq hbw.size) (fun e=>by cases e;omega)⟩)
 have HK:=qAq (qBq k2 (qBq k3 (qBq hb1 (qBq hw1' hF))));clear h hsz hT hcx hAl ht0 hsrt b2 b3 k2 k3 z2 hwb hw1 hw1' hF hb1 ht htbe hAe hncc hnd hnm hkey hna hres hnc hcc;go_enter Tryz.func46,Tryz.ntmps46;go_upto_region 1 with fail;rw[HK.out.2.2.2.1,HK.out.2.2.2.2];have x0:=aA HK.out.1 0;have x1:=aA HK.out.1 1;have xl:=aC HK.out.1;go_upto_region 2 with (go_at_call 29;(with_reducible refine htab.mono ?_);rintro e w2 ⟨rfl,hw⟩;subst w2;clear htab);have hlv:=HLV.out w1 HK.out.2.2.1;by_cases hbig:na>64
 ·have hbi:(na:Int)>64:=(by omega);obtain rfl:res=(5,0,e0):=HRES.out.1.symm.trans (uS (by rw[HRES.out.2.2];exact hbig));clear hbig
  go_wp2_with (first
   | (go_at_call 52;(with_reducible refine hlv.mono ?_);rintro e w3 ⟨p9,n9,c9,rfl,hv9,hb9⟩;have hct:=HCT.out w3 p9 n9 c9 hv9;have H3:=qAq hb9;clear hlv hv9 hb9)
   | (go_at_call 53;(with_reducible refine hct.mono ?_);rintro e w4 ⟨rfl,hb4⟩;have hb14:=aB H3.out hb4;have r0:=aA (aE hb14 HK.out.2.1) 0;have r1:=aA (aE hb14 HK.out.2.1) 1;have r2:=aA (aE hb14 HK.out.2.1) 2;have r3:=aA (aE hb14 HK.out.2.1) 3;have r4:=aA (aE hb14 HK.out.2.1) 4;have rf:=fun i=>frozen_of_row w4 (F+1) i _ _ (aE hb14 HK.out.2.1);have rl:=aC (aE hb14 HK.out.2.1);have H4:=qAq hb14;clear hct hb4 hb14 x0 x1 xl))
  generalize hwz:((((World.setCell _ _ _).setCell _ _).setCell _ _).setCell _ _).setCell _ _=wz;obtain⟨⟨y0,y1,y2,y3,y4⟩,hbz⟩:=FIN.out _ _ _ _ _ H4.out hwz;refine bodyPost_ret (v:=fltV 5 0 e0 0 e0) (by simp[results,Tryz.results46,go_sem,y0,y1,y2,y3,y4]) rfl ?_;exact⟨rfl,hbz⟩
 have hbi:¬ (na:Int)>64:=(by omega);have HBG:=qAq (show ¬ 64<A.length by rw[HRES.out.2.2];exact hbig);clear hbig
 go_upto_region 4 with (first
  | (go_at_call 52;(with_reducible refine hlv.mono ?_);rintro e w3 ⟨p9,n9,c9,rfl,hv9,hb9⟩;have hct:=HCT.out w3 p9 n9 c9 hv9;have H3:=qAq hb9;clear hlv hv9 hb9)
  | (go_at_call 53;(with_reducible refine hct.mono ?_);rintro e w4 ⟨rfl,hb4⟩;have H4:=qAq (aB H3.out hb4);clear hct hb4))
 clear x0 x1 xl;have y1:=aA (aE H4.out HK.out.1) 1;have yl:=aC (aE H4.out HK.out.1);go_wp2_with fail;clear y1 yl;go_loopg [20] (nc+1) (fun gh jv y=>∃ (m:Nat),jv=.int .i64 (m:Int)/\m<=nc/\nc+1<=m+gh/\(∀ i,i<m->¬ 40<wordN A i)/\Below w1.heap.size w1 y)
 case atStart=>exact⟨0,rfl,Nat.zero_le _,by omega,fun i hi=>by omega,H4.out⟩
 obtain⟨m,rfl,hm,hg,hno,hB⟩:=hrel;have HI:=qAq (qBq hno hB);by_cases hlt:m<nc
 ·have hmi:(m:Int)<(nc:Int):=(by omega);have hbw:=aB HK.out.2.2.1 hB;obtain⟨b,off,rfl,bl,c0,c1,c2,c3⟩:=HCOL.out wr hbw m hlt;have hwd:=(fun y hy=>HWD.out y (aB hbw hy) m hlt);obtain⟨c,hcc⟩:∃ c,cAt t m=c:=⟨_,rfl⟩;obtain⟨wn,hwn⟩:∃ n,wordN A m=n:=⟨_,rfl⟩;rw[hcc] at c0 c1 c2 c3;simp only[hcc,hwn] at hwd;have b3:=aD wr (.cells #[.string c.nm,.int .i64 c.kd,.bool c.mu,.string c.tgt] 95);have k3:=heap_alloc_new wr (.cells #[.string c.nm,.int .i64 c.kd,.bool c.mu,.string c.tgt] 95);obtain⟨w3,hw3⟩:∃ y,wr.alloc (.cells #[.string c.nm,.int .i64 c.kd,.bool c.mu,.string c.tgt] 95)=y:=⟨_,rfl⟩;obtain⟨V,hV⟩:∃ V,wr.heap.size=V:=⟨_,rfl⟩;have hz3:wr.heap.size<=w3.heap.size:=(by rw[<- hw3];exact (aD wr _).size);rw[hw3] at b3 k3;have hwd:=hwd w3 b3;have hwle:wn<=na:=(by rw[<- hwn,<- HRES.out.2.2];exact jM);have hwi:(wn:Int)<=1000:=(by omega);rw[hV] at k3;have z0:=aA k3 0;have zl:=aC k3;have HX:=qAq (qBq hw3 (qBq hV (qBq k3 (qBq (aB hB b3) (qBq hcc hwn)))));clear hno hB hbw b3 k3 hw3 hV hcc hwn hwle hz3;go_upto_region 7 with fail;rw[HX.out.1,HX.out.2.1];clear c0 c1 c2 c3 bl;by_cases hbig:wn>40
  ·have hbi2:(wn:Int)>40:=by omega
   have hres:res=(5,0,c.nm):=HRES.out.1.symm.trans (by
    rw[pZ HBG.out (by rw[HRES.out.2.1];exact hlt) (by rw[HX.out.2.2.2.2.2];exact hbig) HI.out.1,HX.out.2.2.2.2.1])
   obtain⟨cn,hcn⟩:∃ x,c.nm=x:=⟨_,rfl⟩;rw[hcn] at hres z0 hwd;have HCN:=qAq hcn;have HX3:=qAq HX.out.2.2.1;rw[hcn] at HX3;subst hres;clear hbig hcn;go_wp2_with (go_at_call 82;(with_reducible refine hwd.mono ?_);rintro e w4 ⟨rfl,hb4⟩;have hb14:=aB HX.out.2.2.2.1 hb4;have r0:=aA (aE hb14 HK.out.2.1) 0;have r1:=aA (aE hb14 HK.out.2.1) 1;have r2:=aA (aE hb14 HK.out.2.1) 2;have r3:=aA (aE hb14 HK.out.2.1) 3;have r4:=aA (aE hb14 HK.out.2.1) 4;have rf:=fun i=>frozen_of_row w4 (F+1) i _ _ (aE hb14 HK.out.2.1);have rl:=aC (aE hb14 HK.out.2.1);have q0:=aA (aE hb4 HX3.out) 0;have ql:=aC (aE hb4 HX3.out);have H5:=qAq hb14;clear hwd hb4 hb14 z0 zl);generalize hwz:((((World.setCell _ _ _).setCell _ _).setCell _ _).setCell _ _).setCell _ _=wz;obtain⟨⟨y0,y1,y2,y3,y4⟩,hbz⟩:=FIN.out _ _ _ _ _ H5.out hwz;refine bodyPost_ret (v:=fltV 5 0 e0 0 cn) (by simp[results,Tryz.results46,go_sem,y0,y1,y2,y3,y4]) rfl ?_;exact⟨rfl,hbz⟩
  have hbi2:¬ (wn:Int)>40:=(by omega);have HNB:=qAq hbig;clear hbig;go_wp2_with (go_at_call 82;(with_reducible refine hwd.mono ?_);rintro e w4 ⟨rfl,hb4⟩;have H5:=qAq (aB HX.out.2.2.2.1 hb4);clear hwd hb4);go_roundg (nc-m)
  case measure=>omega
  refine⟨m+1,by go_num,by omega,by omega,fun i hi=>?_,H5.out⟩;by_cases e:i=m
  ·subst e;rw[HX.out.2.2.2.2.2];exact HNB.out
  exact HI.out.1 i (by omega)
 obtain rfl:m=nc:=(by omega);obtain rfl:res=(0,0,e0):=HRES.out.1.symm.trans (eU HBG.out (fun i hi=>HI.out.1 i (by rw[<- HRES.out.2.1];exact hi)));have r0:=aA (aE hB HK.out.2.1) 0;have r1:=aA (aE hB HK.out.2.1) 1;have r2:=aA (aE hB HK.out.2.1) 2;have r3:=aA (aE hB HK.out.2.1) 3;have r4:=aA (aE hB HK.out.2.1) 4;have rf:=(fun i=>frozen_of_row wr (F+1) i _ _ (aE hB HK.out.2.1));have rl:=aC (aE hB HK.out.2.1);clear hno hB;go_wp2_with fail;generalize hwz:((((World.setCell _ _ _).setCell _ _).setCell _ _).setCell _ _).setCell _ _=wz;obtain⟨⟨y0,y1,y2,y3,y4⟩,hbz⟩:=FIN.out _ _ _ _ _ HI.out.2 hwz;refine bodyPost_ret (v:=fltV 0 0 e0 0 e0) (by simp[results,Tryz.results46,go_sem,y0,y1,y2,y3,y4]) rfl ?_;exact⟨rfl,hbz⟩
theorem aT {n G:Nat} {A w w':World} (hb:Below n A w) (hn:n<=A.heap.size) (hg:w.grownBy w' (some G)) (hG:n<=G):Below n A w' :=
 hb.trans ⟨hg.os,hg.tape,hg.output,hg.size,fun q hq=>hg.block q (by have:=hb.size;omega) (fun e=>by cases e;omega)⟩
section
variable {ts:List T} {As:List (List R1)} {j:Nat}
theorem aDU (hj:j<ts.length) (hA:j<As.length):tabAt ts As j=tabF ts As ts[j] As[j]:=by
 unfold tabAt;rw[List.getD_eq_getElem?_getD,List.getElem?_eq_getElem hj,List.getD_eq_getElem?_getD,List.getElem?_eq_getElem hA];rfl
theorem cW (hj:j<ts.length) (h:(tabAt ts As j).1≠0) (h0:∀ i,i<j->(tabAt ts As i).1=0):checkF ts As=((tabAt ts As j).1,ts[j].nm,(tabAt ts As j).2.1,(tabAt ts As j).2.2):=by
 unfold checkF;rw[aZ (p:=fun j=>decide ((tabAt ts As j).1≠0)) hj (decide_eq_true h) (fun i hi=>decide_eq_false (fun hn=>hn (h0 i hi)))];simp only[List.getD_eq_getElem?_getD,List.getElem?_eq_getElem hj];rfl
theorem cX (h0:∀ i,i<ts.length->(tabAt ts As i).1=0):checkF ts As=(0,e0,0,e0):=by
 unfold checkF;rw[aV (p:=fun j=>decide ((tabAt ts As j).1≠0)) (fun i hi=>decide_eq_false (fun hn=>hn (h0 i hi)))]
end
structure AllOk (ts:List T):Prop where
 inv:InvQ ts
 few:AllFew ts
 sh:Short ts
 n:ts.length<=1000
 form:∀ t∈ts,FormOk t
 pos:∀ t∈ts,0<t.cols.length
 ix:∀ t∈ts,∀ c (hc:c<t.cols.length),ixC t.cols t.cols[c].nm=(c:Int)
 un:∀ j (hj:j<ts.length),findT ts ts[j].nm=some ts[j]
theorem qA {W:World} {d:Nat} {ts:List T} {st:List DT} {O:Nat->Nat} (h:Dd W d ts st O) (hok:AllOk ts) (hA:∀ s∈st,s.2.2.length<=1000) :
  Calls Tryz.prog 18 #[.pointer (some ⟨d,0,none⟩)] W fun e w'=>e=.returned (fltV (checkF ts (rowsOf st)).1 0 (checkF ts (rowsOf st)).2.1 (checkF ts (rowsOf st)).2.2.1 (checkF ts (rowsOf st)).2.2.2)/\Below W.heap.size W w':=by
 have b1:=aD W (.cells zF 39);have k1:=heap_alloc_new W (.cells zF 39);obtain⟨w1,hw1⟩:∃ y,W.alloc (.cells zF 39)=y:=⟨_,rfl⟩;obtain⟨R,hR⟩:∃ D,W.heap.size=D:=⟨_,rfl⟩;have hz1:w1.heap.size=R+1:=(by rw[<- hw1,<- hR,World.size_alloc]);rw[hw1] at b1 k1;rw[hR] at k1;have HDD:Hid (∀ w,Below W.heap.size W w->Dd w d ts st O):=qAq (fun w hw=>h.later hw);have HS:Hid (∀ w,Below W.heap.size W w->Calls Tryz.prog 43 #[.pointer (some ⟨d,0,none⟩)] w fun e w'=>e=.returned (Value.pointer (some ⟨d,0,none⟩))/\w'=w):=qAq (fun w hw=>bF (h.later hw).dlt)
 have hnames:Calls Tryz.prog 44 #[.pointer (some ⟨d,0,none⟩)] w1 fun e w'=>∃ v',e=.returned v'/\HRow w' w1.heap.size 9 1 v' ts.length (cellsS (ts.map T.nm))/\Below w1.heap.size w1 w':=by
  obtain⟨mv,f,n0,q1,_⟩:=(h.later b1).own;exact xK q1.p hok.n
 have HFI:Hid (∀ w,Below W.heap.size W w->∀ j (hj:j<ts.length),Calls Tryz.prog 45 #[.pointer (some ⟨d,0,none⟩),.string ts[j].nm] w (GivesT ts[j] true w)):=qAq (fun w hw j hj=>by
  obtain⟨mv,f,n0,q1,_⟩:=(h.later hw).own
  have:=eP (x:=ts[j].nm) q1.p hok.few
  rw[dK,hok.un j hj] at this;exact this)
 have hlen:st.length=ts.length:=h.len
 have HTOO:Hid (∀ w,Below W.heap.size W w->∀ j (hj:j<ts.length) (cv dv:Value),RdT w cv dv ts[j]->(Calls Tryz.prog 46 #[.pointer (some ⟨d,0,none⟩),.agg #[.string ts[j].nm,cv,.string ts[j].key,dv]] w fun e w'=>e=.returned (fltV (tooF ts[j] ((rowsOf st).getD j [])).1 0 e0 (tooF ts[j] ((rowsOf st).getD j [])).2.1 (tooF ts[j] ((rowsOf st).getD j [])).2.2)/\Below w.heap.size w w')/\(Calls Tryz.prog 47 #[.pointer (some ⟨d,0,none⟩),.agg #[.string ts[j].nm,cv,.string ts[j].key,dv]] w fun e w'=>e=.returned (fltV (wrongF ts (rowsOf st) ts[j] ((rowsOf st).getD j [])).1 0 e0 (wrongF ts (rowsOf st) ts[j] ((rowsOf st).getD j [])).2.1 (wrongF ts (rowsOf st) ts[j] ((rowsOf st).getD j [])).2.2)/\Below w.heap.size w w')):=qAq (fun w hw j hj cv dv hT=>by
  have hj':j<st.length:=by omega
  have e:(rowsOf st).getD j []=st[j].2.2:=by
   rw[List.getD_eq_getElem?_getD,List.getElem?_map,List.getElem?_eq_getElem hj'];rfl
  have hm:=List.getElem_mem hj;have hAj:=hA _ (List.getElem_mem hj');rw[e];exact⟨uT (h.later hw) hok.sh hj hj' hT (hok.form _ hm).nc (hok.ix _ hm) hAj,rS (h.later hw) hok.inv hok.few hok.sh hj hj' hT (hok.form _ hm) (hok.pos _ hm) hAj⟩)
 obtain⟨As,hAs⟩:∃ x,rowsOf st=x:=⟨_,rfl⟩;have hAl:As.length=ts.length:=(by rw[<- hAs,List.length_map];exact hlen);rw[hAs] at HTOO ⊢;obtain⟨nt,hnt⟩:∃ n,ts.length=n:=⟨_,rfl⟩;have hni:(nt:Int)<=1000:=(by have:=hok.n;omega);rw[hnt] at hnames;obtain⟨res,hres⟩:∃ r,checkF ts As=r:=⟨_,rfl⟩;rw[hres];have HRES:=qAq (qBq hres (qBq hnt hAl))
 have FIN:Hid (∀ (w2 wz:World) (er id:Int) (nm col:ByteArray),Below w1.heap.size w1 w2->((((w2.setCell ⟨R,0,none⟩ (.int .i64 er)).setCell ⟨R,1,none⟩ (.int .i64 0)).setCell ⟨R,2,none⟩ (.string nm)).setCell ⟨R,3,none⟩ (.int .i64 id)).setCell ⟨R,4,none⟩ (.string col)=wz ->
   (wz.cell? ⟨R,0,none⟩=some (.int .i64 er)/\wz.cell? ⟨R,1,none⟩=some (.int .i64 0)/\wz.cell? ⟨R,2,none⟩=some (.string nm)/\wz.cell? ⟨R,3,none⟩=some (.int .i64 id)/\wz.cell? ⟨R,4,none⟩=some (.string col))/\Below W.heap.size W wz):=qAq (by
  rintro w2 wz er id nm col hb rfl;have h5:=gS (aE hb k1) (.int .i64 er) (.int .i64 0) (.string nm) (.int .i64 id) (.string col);have hg:=aW w2 R (.int .i64 er) (.int .i64 0) (.string nm) (.int .i64 id) (.string col);exact⟨⟨aA h5 0,aA h5 1,aA h5 2,aA h5 3,aA h5 4⟩,aT (aB b1 hb) (Nat.le_refl _) hg (by omega)⟩)
 have HK:=qAq (qBq k1 (qBq b1 (qBq hw1 (qBq hR hz1))));clear h hok hA b1 k1 hw1 hR hlen hAs hAl hnt hres hz1;go_enter Tryz.func18,Tryz.ntmps18;go_upto_region 1 with fail;rw[HK.out.2.2.1,HK.out.2.2.2.1];have hs:=HS.out w1 HK.out.2.1
 go_wp2_with (first
  | (go_at_call 43;(with_reducible refine hs.mono ?_);rintro e w2 ⟨rfl,hw⟩;subst w2;clear hs)
  | (go_at_call 44;(with_reducible refine hnames.mono ?_);rintro e w3 ⟨v3,rfl,hr3,hb3⟩;obtain⟨pn,cn,rfl,_,_⟩:=HRow.isslice hr3;have H3:=qAq (qBq hr3 hb3);clear hnames hr3 hb3))
 have HNM:Hid (∀ w,Below w3.heap.size w3 w->∀ j (hj:j<ts.length),∃ g,pn=some ⟨g,0,none⟩/\w.cell? ⟨g,j,none⟩=some (.string ts[j].nm)/\g<w.heap.size):=qAq (fun w hw j hj=>by
  have hr:=(H3.out.1).later hw;obtain⟨g,c',e,_,_⟩:=HRow.slice hr (by rw[<- HRES.out.2.1];omega);cases e;refine⟨g,rfl,hr.cell ?_,(HRow.lt hr g rfl).2⟩;unfold cellsS;rw[List.getElem?_map,List.getElem?_map,List.getElem?_eq_getElem hj];rfl)
 go_loopg [12] (nt+1) (fun gh jv y=>∃ (j:Nat),jv=.int .i64 (j:Int)/\j<=nt/\nt+1<=j+gh/\(∀ i,i<j->(tabAt ts As i).1=0)/\Below w3.heap.size w3 y)
 case atStart=>exact⟨0,rfl,Nat.zero_le _,by omega,fun i hi=>by omega,Below.refl _ _⟩
 obtain⟨j,rfl,hj,hg,hno,hB⟩:=hrel;have HI:=qAq (qBq hno hB);by_cases hlt:j<nt
 ·have hji:(j:Int)<(nt:Int):=(by omega);have hjt:j<ts.length:=(by rw[HRES.out.2.1];exact hlt);have hb1:=aB H3.out.2 hB;have hbW:=aB HK.out.2.1 hb1;obtain⟨g,rfl,c0,gl⟩:=HNM.out wr hB j hjt;have hs:=HS.out wr hbW;have hfi:=HFI.out wr hbW j hjt;have htoo:=fun w hw=>HTOO.out w (aB hbW hw) j hjt
  have htab:tabAt ts As j=if (tooF ts[j] (As.getD j [])).1=0 then wrongF ts As ts[j] (As.getD j []) else tooF ts[j] (As.getD j []):=by
   unfold tabAt tabF;rw[List.getD_eq_getElem?_getD (l:=ts),List.getElem?_eq_getElem hjt];rfl
  obtain⟨t,ht⟩:∃ t,ts[j]=t:=⟨_,rfl⟩;obtain⟨A,hAA⟩:∃ A,As.getD j []=A:=⟨_,rfl⟩;simp only[ht,hAA] at c0 hfi htoo htab;obtain⟨⟨e1,id1,col1⟩,hf1⟩:∃ r,tooF t A=r:=⟨_,rfl⟩;obtain⟨⟨e2,id2,col2⟩,hf2⟩:∃ r,wrongF ts As t A=r:=⟨_,rfl⟩;simp only[hf1,hf2] at htoo htab;obtain⟨nm,hnm⟩:∃ x,t.nm=x:=⟨_,rfl⟩;obtain⟨key,hkey⟩:∃ x,t.key=x:=⟨_,rfl⟩;unfold GivesT at hfi;simp only[hnm,hkey] at c0 hfi htoo;have HTO:=qAq htoo;have HX:=qAq (qBq htab (qBq ht (qBq hnm (qBq hb1 hjt))));clear hno hB hbW htoo htab ht hAA hf1 hf2 hnm hkey hb1
  go_upto_region 5 with (first
   | (go_at_call 43;(with_reducible refine hs.mono ?_);rintro e w2 ⟨rfl,hw⟩;subst w2;clear hs)
   | (go_at_call 45;(with_reducible refine hfi.mono ?_);rintro e w4 ⟨p1,n1,c1,p2,n2,c2,rfl,hT,hb4⟩;have H4:=qAq (qBq hT hb4);clear hfi hT hb4))
  have b5:=aD w4 (.cells #[.string nm,.slice p1 n1 c1,.string key,.slice p2 n2 c2] 77);have k5:=heap_alloc_new w4 (.cells #[.string nm,.slice p1 n1 c1,.string key,.slice p2 n2 c2] 77);obtain⟨w5,hw5⟩:∃ y,w4.alloc (.cells #[.string nm,.slice p1 n1 c1,.string key,.slice p2 n2 c2] 77)=y:=⟨_,rfl⟩;obtain⟨F,hF⟩:∃ D,w4.heap.size=D:=⟨_,rfl⟩;rw[hw5] at b5 k5;rw[hF] at k5;rw[hw5,hF];have htoo:=(HTO.out w5 (aB H4.out.2 b5) _ _ (H4.out.1.later b5)).1;have f0:=aA k5 0;have f1:=aA k5 1;have f2:=aA k5 2;have f3:=aA k5 3;have fl:=aC k5;have H5:=qAq (qBq k5 (aB H4.out.2 b5));have HT5:=qAq (H4.out.1.later b5);clear b5 k5 hw5 hF c0 gl;go_upto_region 6 with (go_at_call 46;(with_reducible refine htoo.mono ?_);rintro e w6 ⟨rfl,hb6⟩;have H6:=qAq hb6;clear htoo hb6);clear f0 f1 f2 f3 fl;have b7:=aD w6 (.cells #[.int .i64 e1,.int .i64 0,.string e0,.int .i64 id1,.string col1] 39);have k7:=heap_alloc_new w6 (.cells #[.int .i64 e1,.int .i64 0,.string e0,.int .i64 id1,.string col1] 39);obtain⟨w7,hw7⟩:∃ y,w6.alloc (.cells #[.int .i64 e1,.int .i64 0,.string e0,.int .i64 id1,.string col1] 39)=y:=⟨_,rfl⟩;obtain⟨G,hG⟩:∃ D,w6.heap.size=D:=⟨_,rfl⟩;rw[hw7] at b7 k7;rw[hG] at k7;rw[hw7,hG];have hb57:=aB H6.out b7;have hbr7:Below wr.heap.size wr w7:=aB H5.out.2 hb57;have hGr:wr.heap.size<=G:=(by have h1:=H5.out.2.size;have h2:=H6.out.size;omega);have g0:=aA k7 0;have gl:=aC k7;have H7:=qAq (qBq k7 (qBq hb57 (qBq hbr7 hGr)));clear b7 k7 hw7 hG hb57 hbr7 hGr
  have TAIL:Hid (∀ (w8:World) (er id:Int) (col:ByteArray),Below wr.heap.size wr w8->w8.heap[G]?=some (.cells #[.int .i64 er,.int .i64 0,.string e0,.int .i64 id,.string col] 39)->er≠0->tabAt ts As j=(er,id,col)->res=(er,nm,id,col)/\(w8.setCell ⟨G,2,none⟩ (.string nm)).heap[G]?=some (.cells #[.int .i64 er,.int .i64 0,.string nm,.int .i64 id,.string col] 39)/\Below w1.heap.size w1 (w8.setCell ⟨G,2,none⟩ (.string nm))/\w8.heap[R]?=some (.cells zF 39)/\(w8.setCell ⟨G,2,none⟩ (.string nm)).heap[R]?=some (.cells zF 39)):=qAq (fun w8 er id col hb hk hne hta=>by
   have hb1:=HX.out.2.2.2.1;have hz:=hb1.size;have hGr:=H7.out.2.2.2;have hr8:w8.heap[R]?=some (.cells zF 39):=aE (aB hb1 hb) HK.out.1;have hRG:R≠G:=(fun e=>by have:=HK.out.2.2.2.2;omega);refine⟨?_,?_,(aB hb1 hb).setCell (p:=⟨G,2,none⟩) (by show w1.heap.size<=G;omega) _,hr8,(heap_setCell_other w8 ⟨G,2,none⟩ R _ hRG).trans hr8⟩
   ·refine (HRES.out.1.symm.trans (cW HX.out.2.2.2.2 (by rw[hta];exact hne) HI.out.1)).trans ?_;have hnm:ts[j].nm=nm:=(congrArg T.nm HX.out.2.1).trans HX.out.2.2.1;exact Prod.ext (congrArg (fun x=>x.1) hta) (Prod.ext hnm (congrArg (fun x=>x.2) hta))
   rw[heap_setCell_same w8 G 2 #[.int .i64 er,.int .i64 0,.string e0,.int .i64 id,.string col] 39 (.string nm) hk];rfl)
  by_cases he1:e1=0
  ·subst he1;have hta:tabAt ts As j=(e2,id2,col2):=HX.out.1.trans (if_pos rfl);have HTA:=qAq hta;have hwrong:=(HTO.out w7 (aB H5.out.2 H7.out.2.1 |> fun h=>h) _ _ (HT5.out.later H7.out.2.1)).2;have k5':=aE H7.out.2.1 H5.out.1;have f0:=aA k5' 0;have f1:=aA k5' 1;have f2:=aA k5' 2;have f3:=aA k5' 3;have fl:=aC k5';clear hta k5';go_upto_region 8 with (go_at_call 47;(with_reducible refine hwrong.mono ?_);rintro e w8 ⟨rfl,hb8⟩;have q0:=aA (aE hb8 H7.out.1) 0;have q1:=aA (aE hb8 H7.out.1) 1;have q2:=aA (aE hb8 H7.out.1) 2;have q3:=aA (aE hb8 H7.out.1) 3;have q4:=aA (aE hb8 H7.out.1) 4;have qf:=fun i=>frozen_of_row w8 G i _ _ (aE hb8 H7.out.1);have ql:=aC (aE hb8 H7.out.1);have H8:=qAq hb8;clear hwrong hb8 f0 f1 f2 f3 fl g0 gl);have h5:=gS (aE H8.out H7.out.1) (.int .i64 e2) (.int .i64 0) (.string e0) (.int .i64 id2) (.string col2);have hg5:=aW w8 G (.int .i64 e2) (.int .i64 0) (.string e0) (.int .i64 id2) (.string col2);generalize hwz:((((World.setCell _ _ _).setCell _ _).setCell _ _).setCell _ _).setCell _ _=wz;rw[hwz] at h5 hg5;have hbz:Below wr.heap.size wr wz:=aT (aB H7.out.2.2.1 H8.out) (Nat.le_refl _) hg5 H7.out.2.2.2;have HZ:=qAq (qBq h5 hbz);have r0:=aA h5 0;have rl:=aC h5;clear h5 hg5 hwz hbz q0 q1 q2 q3 q4 qf ql;by_cases he2:e2=0
   ·subst he2;go_wp2_with fail;go_roundg (nt-j)
    case measure=>omega
    refine⟨j+1,by go_num,by omega,by omega,fun i hi=>?_,aB HI.out.2 HZ.out.2⟩;by_cases e:i=j
    ·subst e;rw[HTA.out]
    exact HI.out.1 i (by omega)
   have hbe:(e2 != 0)=true:=(by simp[he2]);obtain⟨a1,a2,a3,a4,a5⟩:=TAIL.out wz e2 id2 col2 HZ.out.2 HZ.out.1 he2 HTA.out;subst a1;have q2:=aA HZ.out.1 2;have qf:=(fun i=>frozen_of_row wz G i _ _ HZ.out.1);obtain⟨wy,hwy⟩:∃ y,wz.setCell ⟨G,2,none⟩ (.string nm)=y:=⟨_,rfl⟩;rw[hwy] at a2 a3 a5;have HY:=qAq (qBq hwy (qBq a2 (qBq a3 a5)));clear a2 a3 a4 a5 hwy he2;go_upto_region 10 with fail;rw[HY.out.1];clear q2 qf r0 rl;have s0:=aA HY.out.2.1 0;have s1:=aA HY.out.2.1 1;have s2:=aA HY.out.2.1 2;have s3:=aA HY.out.2.1 3;have s4:=aA HY.out.2.1 4;have sl:=aC HY.out.2.1;have t0:=aA HY.out.2.2.2 0;have t1:=aA HY.out.2.2.2 1;have t2:=aA HY.out.2.2.2 2;have t3:=aA HY.out.2.2.2 3;have t4:=aA HY.out.2.2.2 4;have tf:=(fun i=>frozen_of_row wy R i _ _ HY.out.2.2.2);have tl:=aC HY.out.2.2.2;go_wp2_with fail;generalize hwz:((((World.setCell _ _ _).setCell _ _).setCell _ _).setCell _ _).setCell _ _=wx;obtain⟨⟨y0,y1,y2,y3,y4⟩,hbx⟩:=FIN.out _ _ _ _ _ _ HY.out.2.2.1 hwz;refine bodyPost_ret (v:=fltV e2 0 nm id2 col2) (by simp[results,Tryz.results18,go_sem,y0,y1,y2,y3,y4]) rfl ?_;exact⟨rfl,hbx⟩
  have hta:tabAt ts As j=(e1,id1,col1):=HX.out.1.trans (if_neg he1);have hb0:(e1==0)=false:=beq_eq_false_iff_ne.2 he1;have hbe:(e1 != 0)=true:=(by simp[he1]);obtain⟨a1,a2,a3,a4,a5⟩:=TAIL.out w7 e1 id1 col1 H7.out.2.2.1 H7.out.1 he1 hta;subst a1;have q2:=aA H7.out.1 2;have qf:=(fun i=>frozen_of_row w7 G i _ _ H7.out.1);obtain⟨wy,hwy⟩:∃ y,w7.setCell ⟨G,2,none⟩ (.string nm)=y:=⟨_,rfl⟩;rw[hwy] at a2 a3 a5;have HY:=qAq (qBq hwy (qBq a2 (qBq a3 a5)));clear a2 a3 a4 a5 hwy he1 hta;go_upto_region 10 with fail;rw[HY.out.1];clear q2 qf g0 gl;have s0:=aA HY.out.2.1 0;have s1:=aA HY.out.2.1 1;have s2:=aA HY.out.2.1 2;have s3:=aA HY.out.2.1 3;have s4:=aA HY.out.2.1 4;have sl:=aC HY.out.2.1;have t0:=aA HY.out.2.2.2 0;have t1:=aA HY.out.2.2.2 1;have t2:=aA HY.out.2.2.2 2;have t3:=aA HY.out.2.2.2 3;have t4:=aA HY.out.2.2.2 4;have tf:=(fun i=>frozen_of_row wy R i _ _ HY.out.2.2.2);have tl:=aC HY.out.2.2.2;go_wp2_with fail;generalize hwz:((((World.setCell _ _ _).setCell _ _).setCell _ _).setCell _ _).setCell _ _=wx;obtain⟨⟨y0,y1,y2,y3,y4⟩,hbx⟩:=FIN.out _ _ _ _ _ _ HY.out.2.2.1 hwz;refine bodyPost_ret (v:=fltV e1 0 nm id1 col1) (by simp[results,Tryz.results18,go_sem,y0,y1,y2,y3,y4]) rfl ?_;exact⟨rfl,hbx⟩
 obtain rfl:j=nt:=(by omega);obtain rfl:res=(0,e0,0,e0):=HRES.out.1.symm.trans (cX (fun i hi=>HI.out.1 i (by rw[<- HRES.out.2.1];exact hi)));have hb1:=aB H3.out.2 hB;have r0:=aA (aE hb1 HK.out.1) 0;have r1:=aA (aE hb1 HK.out.1) 1;have r2:=aA (aE hb1 HK.out.1) 2;have r3:=aA (aE hb1 HK.out.1) 3;have r4:=aA (aE hb1 HK.out.1) 4;have rf:=(fun i=>frozen_of_row wr R i _ _ (aE hb1 HK.out.1));have rl:=aC (aE hb1 HK.out.1);have HB1:=qAq hb1;clear hno hB hb1;go_wp2_with fail;generalize hwz:((((World.setCell _ _ _).setCell _ _).setCell _ _).setCell _ _).setCell _ _=wz;obtain⟨⟨y0,y1,y2,y3,y4⟩,hbz⟩:=FIN.out _ _ _ _ _ _ HB1.out hwz;refine bodyPost_ret (v:=fltV 0 0 e0 0 e0) (by simp[results,Tryz.results18,go_sem,y0,y1,y2,y3,y4]) rfl ?_;exact⟨rfl,hbz⟩
section
variable {ts:List T} {As:List (List R1)} {j:Nat} {t:T} {A:List R1}
theorem aBQ (h:tabAt ts As j=tabF ts As t A) (hb:64<A.length):tabAt ts As j=(5,0,e0):=by
 rw[h];unfold tabF;rw[uS hb,if_neg (show ¬ ((5:Int)=0) by decide)]
theorem yL {c:Nat} (h:tabAt ts As j=tabF ts As t A) (hb:¬ 64<A.length) (hc:c<t.cols.length) (h1:40<wordN A c) (h0:∀ m,m<c->¬ 40<wordN A m):tabAt ts As j=(5,0,(cAt t c).nm):=by
 rw[h];unfold tabF;rw[pZ hb hc h1 h0,if_neg (show ¬ ((5:Int)=0) by decide)]
theorem aBR {k:Nat} (h:tabAt ts As j=tabF ts As t A) (hb:¬ 64<A.length) (h0:∀ m,m<t.cols.length->¬ 40<wordN A m) (hk:k<A.length) (h1:(rowF ts As t A[k].2 (lessR A k)).1≠0) (h2:∀ m,m<k->badRow ts As t A m=false):tabAt ts As j=((rowF ts As t A[k].2 (lessR A k)).1,A[k].1,(rowF ts As t A[k].2 (lessR A k)).2):=by
 rw[h];unfold tabF;rw[eU hb h0,if_pos rfl,fR hk h1 h2]
theorem aDV (h:tabAt ts As j=tabF ts As t A) (hb:¬ 64<A.length) (h0:∀ m,m<t.cols.length->¬ 40<wordN A m) (h2:∀ m,m<A.length->badRow ts As t A m=false):(tabAt ts As j).1=0:=by
 rw[h];unfold tabF;rw[eU hb h0,if_pos rfl,cU h2]
end
theorem oB {W:World} {b:Nat} {ts:List T} {tt:List RT} {ni:NI} {O:Nat->Nat} (h:DbN W b ts tt ni O) (hok:AllOk ts) (hneg:∀ t∈ts,ixC t.cols e0<0) (h0t:0<ts.length) (hA:∀ y∈tt,y.A.length<=1000) :
  Calls Tryz.prog 20 #[.pointer (some ⟨b,0,none⟩)] W fun e w'=>e=.returned (fltV (checkF ts (rowsN tt)).1 0 (checkF ts (rowsN tt)).2.1 (checkF ts (rowsN tt)).2.2.1 (checkF ts (rowsN tt)).2.2.2)/\Below W.heap.size W w':=by
 have b1:=aD W (.cells zF 39);have k1:=heap_alloc_new W (.cells zF 39);obtain⟨w1,hw1⟩:∃ y,W.alloc (.cells zF 39)=y:=⟨_,rfl⟩;obtain⟨R,hR⟩:∃ D,W.heap.size=D:=⟨_,rfl⟩;rw[hw1] at b1 k1;rw[hR] at k1;have hlen:tt.length=ts.length:=h.n;obtain⟨As,hAs⟩:∃ x,rowsN tt=x:=⟨_,rfl⟩;have hAsl:As.length=ts.length:=(by rw[<- hAs,List.length_map];exact hlen);have HN:=qAq (qBq h (qBq hok (qBq hneg (qBq h0t (qBq hA (qBq hlen (qBq hAs hAsl)))))));rw[hAs];obtain⟨nt,hnt⟩:∃ n,ts.length=n:=⟨_,rfl⟩;have hni:(nt:Int)<=1000:=(by have:=hok.n;omega);have h0y:0<tt.length:=(by omega);obtain⟨⟨gs0,cs0,go0,co0,pr0,cr0,pc0,kc0,pd0,kd0⟩,hZ0,hY0⟩:=h.nreads h0t (List.getElem?_eq_getElem h0y) (hok.pos _ (List.getElem_mem h0t));dsimp only at hZ0;rw[hnt] at hZ0
 have HZ0:Hid (∀ w,Below W.heap.size W w->w.cell? ⟨b,0,none⟩=some (.slice (some ⟨gs0,0,none⟩) nt cs0)/\w.cell? ⟨b,1,none⟩=some (.slice (some ⟨go0,0,none⟩) nt co0)/\b<w.heap.size/\gs0<w.heap.size/\go0<w.heap.size):=qAq (fun w hw=>by
  obtain⟨x1,x2,x3,x4,x5,x6,_⟩:=hZ0 w hw;exact⟨x5,x1,x3,x6,x4⟩)
 obtain⟨res,hres⟩:∃ r,checkF ts As=r:=⟨_,rfl⟩;rw[hres];have HRES:=qAq (qBq hres hnt)
 have FIN:Hid (∀ (w2 wz:World) (er id:Int) (nm col:ByteArray),Below w1.heap.size w1 w2->((((w2.setCell ⟨R,0,none⟩ (.int .i64 er)).setCell ⟨R,1,none⟩ (.int .i64 0)).setCell ⟨R,2,none⟩ (.string nm)).setCell ⟨R,3,none⟩ (.int .i64 id)).setCell ⟨R,4,none⟩ (.string col)=wz ->
   (wz.cell? ⟨R,0,none⟩=some (.int .i64 er)/\wz.cell? ⟨R,1,none⟩=some (.int .i64 0)/\wz.cell? ⟨R,2,none⟩=some (.string nm)/\wz.cell? ⟨R,3,none⟩=some (.int .i64 id)/\wz.cell? ⟨R,4,none⟩=some (.string col))/\Below W.heap.size W wz):=qAq (by
  rintro w2 wz er id nm col hb rfl;have h5:=gS (aE hb k1) (.int .i64 er) (.int .i64 0) (.string nm) (.int .i64 id) (.string col);have hg:=aW w2 R (.int .i64 er) (.int .i64 0) (.string nm) (.int .i64 id) (.string col);exact⟨⟨aA h5 0,aA h5 1,aA h5 2,aA h5 3,aA h5 4⟩,aT (aB b1 hb) (Nat.le_refl _) hg (by omega)⟩)
 have HK:=qAq (qBq k1 (qBq b1 (qBq hw1 hR)))
 have HR:Hid (∀ w,Below w1.heap.size w1 w->(R<w.heap.size/\(∀ i,w.frozen? ⟨R,i,none⟩=false))/\w.cell? ⟨R,0,none⟩=some (.int .i64 0)/\w.cell? ⟨R,1,none⟩=some (.int .i64 0)/\w.cell? ⟨R,2,none⟩=some (.string e0)/\w.cell? ⟨R,3,none⟩=some (.int .i64 0)/\w.cell? ⟨R,4,none⟩=some (.string e0)):=qAq (fun w hw=>by
  have:=aE hw k1
  exact⟨⟨aC this,fun i=>frozen_of_row w R i _ _ this⟩,aA this 0,aA this 1,aA this 2,aA this 3,aA this 4⟩)
 clear h hok hneg h0t hA b1 k1 hw1 hR hlen hAs hAsl hnt hres hZ0 hY0 h0y;go_enter Tryz.func20,Tryz.ntmps20;go_upto_region 1 with fail;rw[HK.out.2.2.1,HK.out.2.2.2];go_wp2_with fail;go_loopg [3] (nt+1) (fun gh jv y=>∃ (j:Nat),jv=.int .i64 (j:Int)/\j<=nt/\nt+1<=j+gh/\(∀ i,i<j->(tabAt ts As i).1=0)/\Below w1.heap.size w1 y)
 case atStart=>exact⟨0,rfl,Nat.zero_le _,by omega,fun i hi=>by omega,Below.refl _ _⟩
 obtain⟨j,rfl,hj,hg,hno,hB⟩:=hrel;have HI:=qAq (qBq hno hB);have hbW:=aB HK.out.2.1 hB;by_cases hlt:j<nt
 ·have hji:(j:Int)<(nt:Int):=(by omega);have hjt:j<ts.length:=(by rw[HRES.out.2];exact hlt);have hjy:j<tt.length:=(by rw[HN.out.2.2.2.2.2.1];exact hjt);have hm:=List.getElem_mem hjt;have hok:=HN.out.2.1;have hc0:=hok.pos _ hm;have hfo:=hok.form _ hm;have hal:=HN.out.2.2.2.2.1 _ (List.getElem_mem hjy);have hye:=List.getElem?_eq_getElem hjy
  have htab:tabAt ts As j=tabF ts As ts[j] tt[j].A:=by
   have e:j<As.length:=(by rw[HN.out.2.2.2.2.2.2.2];exact hjt);rw[aDU hjt e]
   have:As[j]=tt[j].A:=by
    simp only[<- HN.out.2.2.2.2.2.2.1];simp[rowsN]
   rw[this]
  have hlen:∀ a∈tt[j].A,a.2.length=ts[j].cols.length:=(fun a ha=>(HN.out.1.ok hjt hye).len a ha);obtain⟨⟨gs,cs,go,co,pr,cr,pc,kc,pd,kd⟩,hZ,hY⟩:=HN.out.1.nreads hjt hye hc0;dsimp only at hZ hY;have hT:=(hZ W (Below.refl _ _)).2.2.2.2.2.2.2.2.2.2;obtain⟨bc,oc,rfl,hC⟩:=pX hT hc0;obtain⟨A,hAe⟩:∃ A,tt[j].A=A:=⟨_,rfl⟩
  have HWN:Hid (∀ w,Below W.heap.size W w->∀ c,c<ts[j].cols.length->Calls Tryz.prog 48 #[.pointer (some ⟨b,0,none⟩),.int .i64 (j:Int),.int .i64 (c:Int)] w fun e w'=>e=.returned (.int .i64 ((wordN tt[j].A c:Nat):Int))/\Below w.heap.size w w'):=qAq (fun w hw c hc=>by
   rw[<- aDK];exact yE (HN.out.1.later hw) hjt hye (by omega) hok.n hfo.nc hc0 hc)
  have HRW:Hid (∀ w,Below W.heap.size W w->∀ k (hk:k<A.length),Calls Tryz.prog 49 #[.pointer (some ⟨b,0,none⟩),.int .i64 (j:Int),.int .i64 (k:Int)] w fun e w'=>e=.returned (.tuple #[.int .i64 (rowF ts As ts[j] A[k].2 (lessR A k)).1,.string (rowF ts As ts[j] A[k].2 (lessR A k)).2])/\Below w.heap.size w w'):=qAq (fun w hw k hk=>by
   subst hAe;refine aDT (HN.out.1.later hw) hjt hye hk hfo (HN.out.2.2.1 _ hm) hc0 hok.n hal hlen (fun w1 hw1 x u=>?_);rw[<- HN.out.2.2.2.2.2.2.1];exact xY (HN.out.1.later (aB hw hw1)) hok.inv (fun t ht=>(hok.form t ht).nc) (fun y hy=>by have:=HN.out.2.2.2.2.1 y hy;omega) x u)
  have HID:Hid (∀ k (hk:k<A.length),∃ gr,pr=some ⟨gr,0,none⟩/\∀ w,Below W.heap.size W w->gr<w.heap.size/\w.cell? ⟨gr,k*2,none⟩=some (.int .i64 A[k].1)):=qAq (fun k hk=>by
   subst hAe;obtain⟨gr,_,_,e,hq⟩:=hY k hk;exact⟨gr,e,fun w hw=>⟨(hq w hw).1,(hq w hw).2.1⟩⟩)
  obtain⟨t,hte⟩:∃ t,ts[j]=t:=⟨_,rfl⟩;simp only[hte,hAe,HRES.out.2] at hZ hC HWN HRW HID htab hfo hal;obtain⟨na,hna⟩:∃ n,A.length=n:=⟨_,rfl⟩;obtain⟨nc,hnc⟩:∃ n,t.cols.length=n:=⟨_,rfl⟩;have hnai:(na:Int)<=1000:=(by omega);have hnci:(nc:Int)<=1000:=(by have:=hfo.nc;omega);obtain⟨nm,hnm⟩:∃ x,t.nm=x:=⟨_,rfl⟩
  have HZ:Hid (∀ w,Below W.heap.size W w->(b<w.heap.size/\go<w.heap.size/\gs<w.heap.size/\bc<w.heap.size)/\w.cell? ⟨b,0,none⟩=some (.slice (some ⟨gs,0,none⟩) nt cs)/\w.cell? ⟨b,1,none⟩=some (.slice (some ⟨go,0,none⟩) nt co)/\w.cell? ⟨go,j,none⟩=some (.slice pr na cr)/\w.cell? ⟨gs,j*4,none⟩=some (.string nm)/\w.cell? ⟨gs,j*4+1,none⟩=some (.slice (some ⟨bc,oc,none⟩) nc kc)):=qAq (fun w hw=>by
   obtain⟨x1,x2,x3,x4,x5,x6,x7,x8,_⟩:=hZ w hw;rw[<- hna,<- hnc,<- hnm];exact⟨⟨x3,x4,x6,(hC w hw).1⟩,x5,x1,x2,x7,x8⟩)
  have HCN:Hid (∀ w,Below W.heap.size W w->∀ c,c<nc->w.cell? ⟨bc,oc+c*4,none⟩=some (.string (cAt t c).nm)):=qAq (fun w hw c hc=>((hC w hw).2 c (by omega)).1);have hnme:ts[j].nm=nm:=(by rw[hte];exact hnm);have HT:=qAq (qBq htab (qBq hna (qBq hnc hjt)))
  have TAIL:Hid (∀ (er id:Int) (col:ByteArray),tabAt ts As j=(er,id,col)->er≠0->res=(er,nm,id,col)):=qAq (fun er id col hta hne=>by
   refine (HRES.out.1.symm.trans (cW hjt (by rw[hta];exact hne) HI.out.1)).trans ?_;rw[hta,hnme])
  obtain⟨⟨l0,l1,l2,l3⟩,a0,a1,a2,a3,a4⟩:=HZ.out wr hbW;clear hno hB hbW hm hok hc0 hfo hal hye htab hlen hZ hY hT hC hnm hna hnc hnme hte hAe hjy;clear a4 l3;by_cases hbig:64<na
  ·have hbi:(64:Int)<(na:Int):=(by omega);have hr:=TAIL.out 5 0 e0 (aBQ HT.out.1 (by rw[HT.out.2.1];exact hbig)) (by decide);subst hr;have HB9:=qAq HI.out.2;obtain⟨⟨ql,qf⟩,q0,q1,q2,q3,q4⟩:=HR.out wr HI.out.2;clear hbig;go_wp2_with fail;generalize hwz:((((World.setCell _ _ _).setCell _ _).setCell _ _).setCell _ _).setCell _ _=wx;obtain⟨⟨y0,y1,y2,y3,y4⟩,hbx⟩:=FIN.out _ _ _ _ _ _ HB9.out hwz;refine bodyPost_ret (v:=fltV 5 0 nm 0 e0) (by simp[results,Tryz.results20,go_sem,y0,y1,y2,y3,y4]) rfl ?_;exact⟨rfl,hbx⟩
  have hbi:¬ (64:Int)<(na:Int):=(by omega);have HBIG:Hid (¬ 64<A.length):=qAq (by rw[HT.out.2.1];exact hbig);clear hbig;go_wp2_with fail;clear a0 a1 a2 a3 l0 l1 l2;go_loopg [5] (nc+1) (fun gh cv y=>∃ (c:Nat),cv=.int .i64 (c:Int)/\c<=nc/\nc+1<=c+gh/\(∀ i,i<c->¬ 40<wordN A i)/\Below w1.heap.size w1 y)
  case atStart=>exact⟨0,rfl,Nat.zero_le _,by omega,fun i hi=>by omega,HI.out.2⟩
  obtain⟨c,rfl,hc,hgc,hnoc,hB⟩:=hrel;have HI2:=qAq (qBq hnoc hB);have hbW:=aB HK.out.2.1 hB;obtain⟨⟨l0,l1,l2,l3⟩,a0,a1,a2,a3,a4⟩:=HZ.out wr hbW;by_cases hlc:c<nc
  ·have hci:(c:Int)<(nc:Int):=(by omega);have hwn:=HWN.out wr hbW c (by rw[HT.out.2.2.1];exact hlc);obtain⟨wn,hwe⟩:∃ n,wordN A c=n:=⟨_,rfl⟩;have hwl:wn<=na:=(by rw[<- hwe,<- HT.out.2.1];exact jM);rw[hwe] at hwn;have HWE:=qAq (qBq hwe hlc);clear hnoc hB hbW hwe a1 a2 a3 l1 l3;by_cases h40:40<wn
   ·have h40i:(40:Int)<(wn:Int):=(by omega);obtain⟨cn,hcn⟩:∃ x,(cAt t c).nm=x:=⟨_,rfl⟩;have hr:=TAIL.out 5 0 cn (by rw[<- hcn];exact yL HT.out.1 HBIG.out (by rw[HT.out.2.2.1];exact hlc) (by rw[HWE.out.1];exact h40) HI2.out.1) (by decide);subst hr;have HCNM:=qAq hcn;clear hcn h40;go_upto_region 11 with (go_at_call 48;(with_reducible refine hwn.mono ?_);rintro e w4 ⟨rfl,hb4⟩;have HB9:=qAq (aB HI2.out.2 hb4);clear hwn hb4);clear a0 a4 l0 l2;obtain⟨⟨l0,l1,l2,l3⟩,a0,a1,a2,a3,a4⟩:=HZ.out w4 (aB HK.out.2.1 HB9.out);have c0:=HCN.out w4 (aB HK.out.2.1 HB9.out) c HWE.out.2;rw[HCNM.out] at c0;obtain⟨⟨ql,qf⟩,q0,q1,q2,q3,q4⟩:=HR.out w4 HB9.out;clear a1 a2 a3 l1;go_wp2_with fail;generalize hwz:((((World.setCell _ _ _).setCell _ _).setCell _ _).setCell _ _).setCell _ _=wx;obtain⟨⟨y0,y1,y2,y3,y4⟩,hbx⟩:=FIN.out _ _ _ _ _ _ HB9.out hwz;refine bodyPost_ret (v:=fltV 5 0 nm 0 cn) (by simp[results,Tryz.results20,go_sem,y0,y1,y2,y3,y4]) rfl ?_;exact⟨rfl,hbx⟩
   have h40i:¬ (40:Int)<(wn:Int):=(by omega);have H40:=qAq h40;clear h40;go_wp2_with (go_at_call 48;(with_reducible refine hwn.mono ?_);rintro e w4 ⟨rfl,hb4⟩;have H4:=qAq (aB HI2.out.2 hb4);clear hwn hb4);go_roundg (nc-c)
   case measure=>omega
   refine⟨c+1,by go_num,by omega,by omega,fun i hi=>?_,H4.out⟩;by_cases e:i=c
   ·subst e;rw[HWE.out.1];exact H40.out
   exact HI2.out.1 i (by omega)
  obtain rfl:c=nc:=(by omega);have hnone:∀ i,i<t.cols.length->¬ 40<wordN A i:=(fun i hi=>HI2.out.1 i (by rw[<- HT.out.2.2.1];exact hi));have HW40:=qAq hnone;clear hnoc hB hbW hnone a1 a2 a3 l1 l3 hlc hc hgc;go_wp2_with fail;clear a0 a4 l0 l2;go_loopg [6] (na+1) (fun gh cv y=>∃ (k:Nat),cv=.int .i64 (k:Int)/\k<=na/\na+1<=k+gh/\(∀ i,i<k->badRow ts As t A i=false)/\Below w1.heap.size w1 y)
  case atStart=>exact⟨0,rfl,Nat.zero_le _,by omega,fun i hi=>by omega,HI2.out.2⟩
  obtain⟨k,rfl,hk,hgk,hnok,hB⟩:=hrel;have HI3:=qAq (qBq hnok hB);have hbW:=aB HK.out.2.1 hB;obtain⟨⟨l0,l1,l2,l3⟩,a0,a1,a2,a3,a4⟩:=HZ.out wr hbW;by_cases hlk:k<na
  ·have hki:(k:Int)<(na:Int):=(by omega);have hkA:k<A.length:=(by rw[HT.out.2.1];exact hlk);have hrow:=HRW.out wr hbW k hkA;obtain⟨gr,rfl,hgr⟩:=HID.out k hkA;obtain⟨idv,hidv⟩:∃ x,A[k].1=x:=⟨_,rfl⟩;rw[hidv] at hgr;obtain⟨⟨er,cl⟩,hrf⟩:∃ x,rowF ts As t A[k].2 (lessR A k)=x:=⟨_,rfl⟩;rw[hrf] at hrow;have HGR:=qAq hgr;have HX:=qAq (qBq hrf hidv);have HKA:=qAq hkA;clear hnok hB hbW hgr hrf hidv a0 a3 a4 l2 l3;by_cases he:er=0
   ·subst he;go_wp2_with (go_at_call 49;(with_reducible refine hrow.mono ?_);rintro e w4 ⟨rfl,hb4⟩;have H4:=qAq (aB HI3.out.2 hb4);clear hrow hb4);go_roundg (na-k)
    case measure=>omega
    refine⟨k+1,by go_num,by omega,by omega,fun i hi=>?_,H4.out⟩;by_cases e:i=k
    ·subst e;exact pY HKA.out (by rw[HX.out.1])
    exact HI3.out.1 i (by omega)
   have hbe:(er != 0)=true:=by simp[he]
   have hr:=TAIL.out er idv cl (by
    have:=aBR HT.out.1 HBIG.out HW40.out HKA.out (by rw[HX.out.1];exact he) HI3.out.1
    rw[HX.out.1,HX.out.2] at this;exact this) he
   subst hr;clear he;go_upto_region 17 with (go_at_call 49;(with_reducible refine hrow.mono ?_);rintro e w4 ⟨rfl,hb4⟩;have HB9:=qAq (aB HI3.out.2 hb4);clear hrow hb4);clear a1 a2 l0 l1;obtain⟨⟨l0,l1,l2,l3⟩,a0,a1,a2,a3,a4⟩:=HZ.out w4 (aB HK.out.2.1 HB9.out);obtain⟨gl,g0⟩:=HGR.out w4 (aB HK.out.2.1 HB9.out);obtain⟨⟨ql,qf⟩,q0,q1,q2,q3,q4⟩:=HR.out w4 HB9.out;clear a0 a3 a4 l2 l3;go_wp2_with fail;generalize hwz:((((World.setCell _ _ _).setCell _ _).setCell _ _).setCell _ _).setCell _ _=wx;obtain⟨⟨y0,y1,y2,y3,y4⟩,hbx⟩:=FIN.out _ _ _ _ _ _ HB9.out hwz;refine bodyPost_ret (v:=fltV er 0 nm idv cl) (by simp[results,Tryz.results20,go_sem,y0,y1,y2,y3,y4]) rfl ?_;exact⟨rfl,hbx⟩
  obtain rfl:k=na:=(by omega);have htz:=aDV HT.out.1 HBIG.out HW40.out (fun i hi=>HI3.out.1 i (by rw[<- HT.out.2.1];exact hi));have HTZ:=qAq htz;clear hnok hB hbW htz a0 a3 a4 l2 l3;go_wp2_with fail;go_roundg (nt-j)
  case measure=>omega
  refine⟨j+1,by go_num,by omega,by omega,fun i hi=>?_,HI3.out.2⟩;by_cases e:i=j
  ·subst e;exact HTZ.out
  exact HI.out.1 i (by omega)
 obtain rfl:j=nt:=(by omega);obtain⟨z0,z1,z2,z3,z4⟩:=HZ0.out wr hbW;obtain⟨⟨ql,qf⟩,q0,q1,q2,q3,q4⟩:=HR.out wr hB;have hr0:res=(0,e0,0,e0):=HRES.out.1.symm.trans (cX (fun i hi=>HI.out.1 i (by rw[<- HRES.out.2];exact hi)));subst hr0;clear hno hB hbW z1 z3 z4 hlt hj hg;have HB9:=qAq HI.out.2;go_wp2_with fail;generalize hwz:((((World.setCell _ _ _).setCell _ _).setCell _ _).setCell _ _).setCell _ _=wx;obtain⟨⟨y0,y1,y2,y3,y4⟩,hbx⟩:=FIN.out _ _ _ _ _ _ HB9.out hwz;refine bodyPost_ret (v:=fltV 0 0 e0 0 e0) (by simp[results,Tryz.results20,go_sem,y0,y1,y2,y3,y4]) rfl ?_;exact⟨rfl,hbx⟩
