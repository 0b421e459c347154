import Derived.Test.YtgbkmjnnlkgpnaaGreatZe50
import Derived.Test.YtgbkmjnnlkgpnaaGreatZe52
set_option maxHeartbeats 8000000
set_option maxRecDepth 100000
namespace Go.Proofs.YtgbkmjnnlkgpnaaGreat
open Go Go.RowKit Go.Proofs Co Co.S
section
variable {ts:List T} {As:List (List R1)} {j:Nat} {t:T} {A:List R1}
theorem aCf (h:bK ts As j=lW ts As t A) (hb:64<A.length):bK ts As j=(5,0,e0):=by
 rw[h];unfold lW;rw[wU hb,if_neg (show ¬ ((5:Int)=0) by decide)]
theorem zY {c:Nat} (h:bK ts As j=lW ts As t A) (hb:¬ 64<A.length) (hc:c<t.cols.length) (h1:40<dS A c) (h0:∀ m,m<c->¬ 40<dS A m):bK ts As j=(5,0,(cAt t c).nm):=by
 rw[h];unfold lW;rw[rY hb hc h1 h0,if_neg (show ¬ ((5:Int)=0) by decide)]
theorem aCg {k:Nat} (h:bK ts As j=lW ts As t A) (hb:¬ 64<A.length) (h0:∀ m,m<t.cols.length->¬ 40<dS A m) (hk:k<A.length) (h1:(dG ts As t A[k].2 (bN A k)).1≠0) (h2:∀ m,m<k->eT ts As t A m=false):bK ts As j=((dG ts As t A[k].2 (bN A k)).1,A[k].1,(dG ts As t A[k].2 (bN A k)).2):=by
 rw[h];unfold lW;rw[jV hb h0,if_pos rfl,iU hk h1 h2]
theorem aDY (h:bK ts As j=lW ts As t A) (hb:¬ 64<A.length) (h0:∀ m,m<t.cols.length->¬ 40<dS A m) (h2:∀ m,m<A.length->eT ts As t A m=false):(bK ts As j).1=0:=by
 rw[h];unfold lW;rw[jV hb h0,if_pos rfl,iV h2]
end
theorem zZ {W:World} {b:Nat} {ts:List T} {tt:List RT} {ni:NI} {O:Nat->Nat} (h:DbN W b ts tt ni O) (hok:AllOk ts) (hneg:∀ t∈ts,ixC t.cols e0<0) (h0t:0<ts.length) (hA:∀ y∈tt,y.A.length<=1000) :
  Calls Tryz.prog 25 #[.pointer (some ⟨b,0,none⟩)] W fun e w'=>e=.returned (fP (bF ts (iR tt)).1 0 (bF ts (iR tt)).2.1 (bF ts (iR tt)).2.2.1 (bF ts (iR tt)).2.2.2)/\Below W.heap.size W w':=by
 have b1:=aC W (.cells zF 33);have k1:=qOq W (.cells zF 33);obtain⟨w1,hw1⟩:∃ y,W.alloc (.cells zF 33)=y:=⟨_,rfl⟩;obtain⟨R,hR⟩:∃ D,W.heap.size=D:=⟨_,rfl⟩;rw[hw1] at b1 k1;rw[hR] at k1;have hlen:tt.length=ts.length:=h.n;obtain⟨As,hAs⟩:∃ x,iR tt=x:=⟨_,rfl⟩;have hAsl:As.length=ts.length:=(by rw[<- hAs,List.length_map];exact hlen);have HN:=qAq (qBq h (qBq hok (qBq hneg (qBq h0t (qBq hA (qBq hlen (qBq hAs hAsl)))))));rw[hAs];obtain⟨nt,hnt⟩:∃ n,ts.length=n:=⟨_,rfl⟩;have hni:(nt:Int)<=1000:=(by have:=hok.n;omega);have h0y:0<tt.length:=(by omega);obtain⟨⟨gs0,cs0,go0,co0,pr0,cr0,pc0,kc0,pd0,kd0⟩,hZ0,hY0⟩:=h.nreads h0t (qQq h0y) (hok.pos _ (List.getElem_mem h0t));dsimp only at hZ0;rw[hnt] at hZ0
 have HZ0:Hid (∀ w,Below W.heap.size W w->w.cell? ⟨b,0,none⟩=some (.slice (some ⟨gs0,0,none⟩) nt cs0)/\w.cell? ⟨b,1,none⟩=some (.slice (some ⟨go0,0,none⟩) nt co0)/\b<w.heap.size/\gs0<w.heap.size/\go0<w.heap.size):=qAq (fun w hw=>by
  obtain⟨x1,x2,x3,x4,x5,x6,_⟩:=hZ0 w hw;exact⟨x5,x1,x3,x6,x4⟩)
 obtain⟨res,hres⟩:∃ r,bF ts As=r:=⟨_,rfl⟩;rw[hres];have HRES:=qAq (qBq hres hnt)
 have FIN:Hid (∀ (w2 wz:World) (er id:Int) (nm col:ByteArray),Below w1.heap.size w1 w2->((((w2.setCell ⟨R,0,none⟩ (.int .i64 er)).setCell ⟨R,1,none⟩ (.int .i64 0)).setCell ⟨R,2,none⟩ (.string nm)).setCell ⟨R,3,none⟩ (.int .i64 id)).setCell ⟨R,4,none⟩ (.string col)=wz ->
   (wz.cell? ⟨R,0,none⟩=some (.int .i64 er)/\wz.cell? ⟨R,1,none⟩=some (.int .i64 0)/\wz.cell? ⟨R,2,none⟩=some (.string nm)/\wz.cell? ⟨R,3,none⟩=some (.int .i64 id)/\wz.cell? ⟨R,4,none⟩=some (.string col))/\Below W.heap.size W wz):=qAq (by
  rintro w2 wz er id nm col hb rfl;have h5:=zN (aD hb k1) (.int .i64 er) (.int .i64 0) (.string nm) (.int .i64 id) (.string col);have hg:=dN w2 R (.int .i64 er) (.int .i64 0) (.string nm) (.int .i64 id) (.string col);exact⟨⟨aA h5 0,aA h5 1,aA h5 2,aA h5 3,aA h5 4⟩,below_grown (aB b1 hb) (Nat.le_refl _) hg (by omega)⟩)
 have HK:=qAq (qBq k1 (qBq b1 (qBq hw1 hR)))
 have HR:Hid (∀ w,Below w1.heap.size w1 w->(R<w.heap.size/\(∀ i,w.frozen? ⟨R,i,none⟩=false))/\w.cell? ⟨R,0,none⟩=some (.int .i64 0)/\w.cell? ⟨R,1,none⟩=some (.int .i64 0)/\w.cell? ⟨R,2,none⟩=some (.string e0)/\w.cell? ⟨R,3,none⟩=some (.int .i64 0)/\w.cell? ⟨R,4,none⟩=some (.string e0)):=qAq (fun w hw=>by
  have:=aD hw k1
  exact⟨⟨lt_of_heap this,fun i=>frozen_of_row w R i _ _ this⟩,aA this 0,aA this 1,aA this 2,aA this 3,aA this 4⟩)
 clear h hok hneg h0t hA b1 k1 hw1 hR hlen hAs hAsl hnt hres hZ0 hY0 h0y;go_enter Tryz.func25,Tryz.ntmps25;go_upto_region 1 with fail;rw[HK.out.2.2.1,HK.out.2.2.2];go_wp2_with fail;go_loopg [3] (nt+1) (fun gh jv y=>∃ (j:Nat),jv=.int .i64 (j:Int)/\j<=nt/\nt+1<=j+gh/\(∀ i,i<j->(bK ts As i).1=0)/\Below w1.heap.size w1 y)
 case atStart=>exact⟨0,rfl,Nat.zero_le _,by omega,fun i hi=>by omega,Below.refl _ _⟩
 obtain⟨j,rfl,hj,hg,hno,hB⟩:=hrel;have HI:=qAq (qBq hno hB);have hbW:=aB HK.out.2.1 hB;by_cases hlt:j<nt
 ·have hji:(j:Int)<(nt:Int):=(by omega);have hjt:j<ts.length:=(by rw[HRES.out.2];exact hlt);have hjy:j<tt.length:=(by rw[HN.out.2.2.2.2.2.1];exact hjt);have hm:=List.getElem_mem hjt;have hok:=HN.out.2.1;have hc0:=hok.pos _ hm;have hfo:=hok.form _ hm;have hal:=HN.out.2.2.2.2.1 _ (List.getElem_mem hjy);have hye:=qQq hjy
  have htab:bK ts As j=lW ts As ts[j] tt[j].A:=by
   have e:j<As.length:=(by rw[HN.out.2.2.2.2.2.2.2];exact hjt);rw[aDX hjt e]
   have:As[j]=tt[j].A:=by
    simp only[<- HN.out.2.2.2.2.2.2.1];simp[iR]
   rw[this]
  have hlen:∀ a∈tt[j].A,a.2.length=ts[j].cols.length:=(fun a ha=>(HN.out.1.ok hjt hye).len a ha);obtain⟨⟨gs,cs,go,co,pr,cr,pc,kc,pd,kd⟩,hZ,hY⟩:=HN.out.1.nreads hjt hye hc0;dsimp only at hZ hY;have hT:=(hZ W (Below.refl _ _)).2.2.2.2.2.2.2.2.2.2;obtain⟨bc,oc,rfl,hC⟩:=rV hT hc0;obtain⟨A,hAe⟩:∃ A,tt[j].A=A:=⟨_,rfl⟩
  have HWN:Hid (∀ w,Below W.heap.size W w->∀ c,c<ts[j].cols.length->Calls Tryz.prog 51 #[.pointer (some ⟨b,0,none⟩),.int .i64 (j:Int),.int .i64 (c:Int)] w fun e w'=>e=.returned (.int .i64 ((dS tt[j].A c:Nat):Int))/\Below w.heap.size w w'):=qAq (fun w hw c hc=>by
   rw[<- aDO];exact zV (HN.out.1.later hw) hjt hye (by omega) hok.n hfo.nc hc0 hc)
  have HRW:Hid (∀ w,Below W.heap.size W w->∀ k (hk:k<A.length),Calls Tryz.prog 52 #[.pointer (some ⟨b,0,none⟩),.int .i64 (j:Int),.int .i64 (k:Int)] w fun e w'=>e=.returned (.tuple #[.int .i64 (dG ts As ts[j] A[k].2 (bN A k)).1,.string (dG ts As ts[j] A[k].2 (bN A k)).2])/\Below w.heap.size w w'):=qAq (fun w hw k hk=>by
   subst hAe;refine aDW (HN.out.1.later hw) hjt hye hk hfo (HN.out.2.2.1 _ hm) hc0 hok.n hal hlen (fun w1 hw1 x u=>?_);rw[<- HN.out.2.2.2.2.2.2.1];exact zI (HN.out.1.later (aB hw hw1)) hok.inv (fun t ht=>(hok.form t ht).nc) (fun y hy=>by have:=HN.out.2.2.2.2.1 y hy;omega) x u)
  have HID:Hid (∀ k (hk:k<A.length),∃ gr,pr=some ⟨gr,0,none⟩/\∀ w,Below W.heap.size W w->gr<w.heap.size/\w.cell? ⟨gr,k*2,none⟩=some (.int .i64 A[k].1)):=qAq (fun k hk=>by
   subst hAe;obtain⟨gr,_,_,e,hq⟩:=hY k hk;exact⟨gr,e,fun w hw=>⟨(hq w hw).1,(hq w hw).2.1⟩⟩)
  obtain⟨t,hte⟩:∃ t,ts[j]=t:=⟨_,rfl⟩;simp only[hte,hAe,HRES.out.2] at hZ hC HWN HRW HID htab hfo hal;obtain⟨na,hna⟩:∃ n,A.length=n:=⟨_,rfl⟩;obtain⟨nc,hnc⟩:∃ n,t.cols.length=n:=⟨_,rfl⟩;have hnai:(na:Int)<=1000:=(by omega);have hnci:(nc:Int)<=1000:=(by have:=hfo.nc;omega);obtain⟨nm,hnm⟩:∃ x,t.nm=x:=⟨_,rfl⟩
  have HZ:Hid (∀ w,Below W.heap.size W w->(b<w.heap.size/\go<w.heap.size/\gs<w.heap.size/\bc<w.heap.size)/\w.cell? ⟨b,0,none⟩=some (.slice (some ⟨gs,0,none⟩) nt cs)/\w.cell? ⟨b,1,none⟩=some (.slice (some ⟨go,0,none⟩) nt co)/\w.cell? ⟨go,j,none⟩=some (.slice pr na cr)/\w.cell? ⟨gs,j*4,none⟩=some (.string nm)/\w.cell? ⟨gs,j*4+1,none⟩=some (.slice (some ⟨bc,oc,none⟩) nc kc)):=qAq (fun w hw=>by
   obtain⟨x1,x2,x3,x4,x5,x6,x7,x8,_⟩:=hZ w hw;rw[<- hna,<- hnc,<- hnm];exact⟨⟨x3,x4,x6,(hC w hw).1⟩,x5,x1,x2,x7,x8⟩)
  have HCN:Hid (∀ w,Below W.heap.size W w->∀ c,c<nc->w.cell? ⟨bc,oc+c*4,none⟩=some (.string (cAt t c).nm)):=qAq (fun w hw c hc=>((hC w hw).2 c (by omega)).1);have hnme:ts[j].nm=nm:=(by rw[hte];exact hnm);have HT:=qAq (qBq htab (qBq hna (qBq hnc hjt)))
  have TAIL:Hid (∀ (er id:Int) (col:ByteArray),bK ts As j=(er,id,col)->er≠0->res=(er,nm,id,col)):=qAq (fun er id col hta hne=>by
   refine (HRES.out.1.symm.trans (iW hjt (by rw[hta];exact hne) HI.out.1)).trans ?_;rw[hta,hnme])
  obtain⟨⟨l0,l1,l2,l3⟩,a0,a1,a2,a3,a4⟩:=HZ.out wr hbW;clear hno hB hbW hm hok hc0 hfo hal hye htab hlen hZ hY hT hC hnm hna hnc hnme hte hAe hjy;clear a4 l3;by_cases hbig:64<na
  ·have hbi:(64:Int)<(na:Int):=(by omega);have hr:=TAIL.out 5 0 e0 (aCf HT.out.1 (by rw[HT.out.2.1];exact hbig)) (by decide);subst hr;have HB9:=qAq HI.out.2;obtain⟨⟨ql,qf⟩,q0,q1,q2,q3,q4⟩:=HR.out wr HI.out.2;clear hbig;go_wp2_with fail;generalize hwz:((((World.setCell _ _ _).setCell _ _).setCell _ _).setCell _ _).setCell _ _=wx;obtain⟨⟨y0,y1,y2,y3,y4⟩,hbx⟩:=FIN.out _ _ _ _ _ _ HB9.out hwz;refine bodyPost_ret (v:=fP 5 0 nm 0 e0) (by simp[results,Tryz.results25,go_sem,y0,y1,y2,y3,y4]) rfl ?_;exact⟨rfl,hbx⟩
  have hbi:¬ (64:Int)<(na:Int):=(by omega);have HBIG:Hid (¬ 64<A.length):=qAq (by rw[HT.out.2.1];exact hbig);clear hbig;go_wp2_with fail;clear a0 a1 a2 a3 l0 l1 l2;go_loopg [5] (nc+1) (fun gh cv y=>∃ (c:Nat),cv=.int .i64 (c:Int)/\c<=nc/\nc+1<=c+gh/\(∀ i,i<c->¬ 40<dS A i)/\Below w1.heap.size w1 y)
  case atStart=>exact⟨0,rfl,Nat.zero_le _,by omega,fun i hi=>by omega,HI.out.2⟩
  obtain⟨c,rfl,hc,hgc,hnoc,hB⟩:=hrel;have HI2:=qAq (qBq hnoc hB);have hbW:=aB HK.out.2.1 hB;obtain⟨⟨l0,l1,l2,l3⟩,a0,a1,a2,a3,a4⟩:=HZ.out wr hbW;by_cases hlc:c<nc
  ·have hci:(c:Int)<(nc:Int):=(by omega);have hwn:=HWN.out wr hbW c (by rw[HT.out.2.2.1];exact hlc);obtain⟨wn,hwe⟩:∃ n,dS A c=n:=⟨_,rfl⟩;have hwl:wn<=na:=(by rw[<- hwe,<- HT.out.2.1];exact qF);rw[hwe] at hwn;have HWE:=qAq (qBq hwe hlc);clear hnoc hB hbW hwe a1 a2 a3 l1 l3;by_cases h40:40<wn
   ·have h40i:(40:Int)<(wn:Int):=(by omega);obtain⟨cn,hcn⟩:∃ x,(cAt t c).nm=x:=⟨_,rfl⟩;have hr:=TAIL.out 5 0 cn (by rw[<- hcn];exact zY HT.out.1 HBIG.out (by rw[HT.out.2.2.1];exact hlc) (by rw[HWE.out.1];exact h40) HI2.out.1) (by decide);subst hr;have HCNM:=qAq hcn;clear hcn h40;go_upto_region 11 with (go_at_call 51;(with_reducible refine hwn.mono ?_);rintro e w4 ⟨rfl,hb4⟩;have HB9:=qAq (aB HI2.out.2 hb4);clear hwn hb4);clear a0 a4 l0 l2;obtain⟨⟨l0,l1,l2,l3⟩,a0,a1,a2,a3,a4⟩:=HZ.out w4 (aB HK.out.2.1 HB9.out);have c0:=HCN.out w4 (aB HK.out.2.1 HB9.out) c HWE.out.2;rw[HCNM.out] at c0;obtain⟨⟨ql,qf⟩,q0,q1,q2,q3,q4⟩:=HR.out w4 HB9.out;clear a1 a2 a3 l1;go_wp2_with fail;generalize hwz:((((World.setCell _ _ _).setCell _ _).setCell _ _).setCell _ _).setCell _ _=wx;obtain⟨⟨y0,y1,y2,y3,y4⟩,hbx⟩:=FIN.out _ _ _ _ _ _ HB9.out hwz;refine bodyPost_ret (v:=fP 5 0 nm 0 cn) (by simp[results,Tryz.results25,go_sem,y0,y1,y2,y3,y4]) rfl ?_;exact⟨rfl,hbx⟩
   have h40i:¬ (40:Int)<(wn:Int):=(by omega);have H40:=qAq h40;clear h40;go_wp2_with (go_at_call 51;(with_reducible refine hwn.mono ?_);rintro e w4 ⟨rfl,hb4⟩;have H4:=qAq (aB HI2.out.2 hb4);clear hwn hb4);go_roundg (nc-c)
   case measure=>omega
   refine⟨c+1,by go_num,by omega,by omega,fun i hi=>?_,H4.out⟩;by_cases e:i=c
   ·subst e;rw[HWE.out.1];exact H40.out
   exact HI2.out.1 i (by omega)
  obtain rfl:c=nc:=(by omega);have hnone:∀ i,i<t.cols.length->¬ 40<dS A i:=(fun i hi=>HI2.out.1 i (by rw[<- HT.out.2.2.1];exact hi));have HW40:=qAq hnone;clear hnoc hB hbW hnone a1 a2 a3 l1 l3 hlc hc hgc;go_wp2_with fail;clear a0 a4 l0 l2;go_loopg [6] (na+1) (fun gh cv y=>∃ (k:Nat),cv=.int .i64 (k:Int)/\k<=na/\na+1<=k+gh/\(∀ i,i<k->eT ts As t A i=false)/\Below w1.heap.size w1 y)
  case atStart=>exact⟨0,rfl,Nat.zero_le _,by omega,fun i hi=>by omega,HI2.out.2⟩
  obtain⟨k,rfl,hk,hgk,hnok,hB⟩:=hrel;have HI3:=qAq (qBq hnok hB);have hbW:=aB HK.out.2.1 hB;obtain⟨⟨l0,l1,l2,l3⟩,a0,a1,a2,a3,a4⟩:=HZ.out wr hbW;by_cases hlk:k<na
  ·have hki:(k:Int)<(na:Int):=(by omega);have hkA:k<A.length:=(by rw[HT.out.2.1];exact hlk);have hrow:=HRW.out wr hbW k hkA;obtain⟨gr,rfl,hgr⟩:=HID.out k hkA;obtain⟨idv,hidv⟩:∃ x,A[k].1=x:=⟨_,rfl⟩;rw[hidv] at hgr;obtain⟨⟨er,cl⟩,hrf⟩:∃ x,dG ts As t A[k].2 (bN A k)=x:=⟨_,rfl⟩;rw[hrf] at hrow;have HGR:=qAq hgr;have HX:=qAq (qBq hrf hidv);have HKA:=qAq hkA;clear hnok hB hbW hgr hrf hidv a0 a3 a4 l2 l3;by_cases he:er=0
   ·subst he;go_wp2_with (go_at_call 52;(with_reducible refine hrow.mono ?_);rintro e w4 ⟨rfl,hb4⟩;have H4:=qAq (aB HI3.out.2 hb4);clear hrow hb4);go_roundg (na-k)
    case measure=>omega
    refine⟨k+1,by go_num,by omega,by omega,fun i hi=>?_,H4.out⟩;by_cases e:i=k
    ·subst e;exact rX HKA.out (by rw[HX.out.1])
    exact HI3.out.1 i (by omega)
   have hbe:(er != 0)=true:=by simp[he]
   have hr:=TAIL.out er idv cl (by
    have:=aCg HT.out.1 HBIG.out HW40.out HKA.out (by rw[HX.out.1];exact he) HI3.out.1
    rw[HX.out.1,HX.out.2] at this;exact this) he
   subst hr;clear he;go_upto_region 17 with (go_at_call 52;(with_reducible refine hrow.mono ?_);rintro e w4 ⟨rfl,hb4⟩;have HB9:=qAq (aB HI3.out.2 hb4);clear hrow hb4);clear a1 a2 l0 l1;obtain⟨⟨l0,l1,l2,l3⟩,a0,a1,a2,a3,a4⟩:=HZ.out w4 (aB HK.out.2.1 HB9.out);obtain⟨gl,g0⟩:=HGR.out w4 (aB HK.out.2.1 HB9.out);obtain⟨⟨ql,qf⟩,q0,q1,q2,q3,q4⟩:=HR.out w4 HB9.out;clear a0 a3 a4 l2 l3;go_wp2_with fail;generalize hwz:((((World.setCell _ _ _).setCell _ _).setCell _ _).setCell _ _).setCell _ _=wx;obtain⟨⟨y0,y1,y2,y3,y4⟩,hbx⟩:=FIN.out _ _ _ _ _ _ HB9.out hwz;refine bodyPost_ret (v:=fP er 0 nm idv cl) (by simp[results,Tryz.results25,go_sem,y0,y1,y2,y3,y4]) rfl ?_;exact⟨rfl,hbx⟩
  obtain rfl:k=na:=(by omega);have htz:=aDY HT.out.1 HBIG.out HW40.out (fun i hi=>HI3.out.1 i (by rw[<- HT.out.2.1];exact hi));have HTZ:=qAq htz;clear hnok hB hbW htz a0 a3 a4 l2 l3;go_wp2_with fail;go_roundg (nt-j)
  case measure=>omega
  refine⟨j+1,by go_num,by omega,by omega,fun i hi=>?_,HI3.out.2⟩;by_cases e:i=j
  ·subst e;exact HTZ.out
  exact HI.out.1 i (by omega)
 obtain rfl:j=nt:=(by omega);obtain⟨z0,z1,z2,z3,z4⟩:=HZ0.out wr hbW;obtain⟨⟨ql,qf⟩,q0,q1,q2,q3,q4⟩:=HR.out wr hB;have hr0:res=(0,e0,0,e0):=HRES.out.1.symm.trans (iX (fun i hi=>HI.out.1 i (by rw[<- HRES.out.2];exact hi)));subst hr0;clear hno hB hbW z1 z3 z4 hlt hj hg;have HB9:=qAq HI.out.2;go_wp2_with fail;generalize hwz:((((World.setCell _ _ _).setCell _ _).setCell _ _).setCell _ _).setCell _ _=wx;obtain⟨⟨y0,y1,y2,y3,y4⟩,hbx⟩:=FIN.out _ _ _ _ _ _ HB9.out hwz;refine bodyPost_ret (v:=fP 0 0 e0 0 e0) (by simp[results,Tryz.results25,go_sem,y0,y1,y2,y3,y4]) rfl ?_;exact⟨rfl,hbx⟩
