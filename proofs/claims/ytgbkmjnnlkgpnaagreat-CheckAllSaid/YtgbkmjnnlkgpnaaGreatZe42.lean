import Derived.Test.YtgbkmjnnlkgpnaaGreatZe40
import Derived.Test.YtgbkmjnnlkgpnaaGreatZe35
set_option maxHeartbeats 4000000
set_option maxRecDepth 100000
namespace Go.Proofs.YtgbkmjnnlkgpnaaGreat
open Go Go.RowKit Go.Proofs Co Co.S
def fL:List Value:=(List.replicate 8 [Value.string e0,.slice none 0 0,.string e0,.slice none 0 0]).flatten
def tQ (d:Nat) (q:Nat):Nat:=if q=d then 1 else 0
theorem Dd.new (W:World):Dd (W.alloc (.cells (fL++[Value.int .i64 0,Value.map none]).toArray 87)) W.heap.size [] [] (tQ W.heap.size):=by
 have hb:=qOq W (.cells (fL++[Value.int .i64 0,Value.map none]).toArray 87);refine⟨⟨.map none,fun _=>none,0,⟨by decide,[],fL,?_,rfl,?_⟩,.inl ⟨rfl,rfl,fun _=>rfl⟩,fun j h=>absurd h (Nat.not_lt_zero _),fun _ _=>rfl,fun b hb=>(by cases hb)⟩,rfl,fun j _ h=>absurd h (Nat.not_lt_zero _),by unfold tQ;rw[if_pos rfl],fun j h=>absurd h (Nat.not_lt_zero _),fun q hq=>?_⟩
 ·rw[hb];rfl
 ·exact⟨rfl,fun j hj=>absurd hj (Nat.not_lt_zero _)⟩
 unfold tQ at hq;by_cases e:q=W.heap.size
 ·rw[e,qPq];omega
 rw[if_neg e] at hq;exact absurd rfl hq
theorem DbN.new (W:World):DbN (W.alloc (.cells #[.slice none 0 0,.slice none 0 0,.slice none 0 0] 54)) W.heap.size [] [] ⟨.slice none 0 0,.slice none 0 0,.slice none 0 0,[]⟩ (tQ W.heap.size):=by
 have hb:=qOq W (.cells #[.slice none 0 0,.slice none 0 0,.slice none 0 0] 54);refine⟨hb,rfl,rfl,HRow.nil,fun j h=>absurd h (Nat.not_lt_zero _),HRow.nil,HRow.nil,fun j h=>absurd h (Nat.not_lt_zero _),by unfold tQ;rw[if_pos rfl],fun _ h=>(by cases h),fun _ h=>(by cases h),fun _ h=>(by cases h),fun q hq=>?_⟩;unfold tQ at hq;by_cases e:q=W.heap.size
 ·rw[e,qPq];omega
 rw[if_neg e] at hq;exact absurd rfl hq
theorem aDI (W:World):Calls Tryz.prog 22 #[] W fun e w'=>e=.returned (.pointer (some ⟨W.heap.size,0,none⟩))/\w'=W.alloc (.cells (fL++[Value.int .i64 0,Value.map none]).toArray 87):=by
 go_enter Tryz.func22,Tryz.ntmps22;go_wp2_with fail;go_ret;exact⟨rfl,rfl⟩
def PS (K:Nat->Prop) (W0 w:World) (d:Nat) (ts:List T) (st:List DT) (b:Nat) (us:List T) (tt:List RT):Prop :=
 ∃ Od Ob i,Dd w d ts st Od/\DbN w b us tt i Ob/\(∀ q,Od q≠0->Ob q=0)/\(∀ q,K q->q<W0.heap.size/\Od q=0/\Ob q=0)/\Tn (fun q=>¬ K q) W0 w
section
variable {K:Nat->Prop} {W0 w w':World} {d b:Nat} {ts us:List T} {st:List DT} {tt:List RT} {t:T} {cv dv:Value}
theorem PS.later (h:PS K W0 w d ts st b us tt) (hb:Below w.heap.size w w'):PS K W0 w' d ts st b us tt:=by
 obtain⟨Od,Ob,i,h1,h2,h3,h4,h5⟩:=h;exact⟨Od,Ob,i,h1.later hb,h2.later hb,h3,h4,h5.trans (Tn.of_below (S:=fun _=>False) hb) (fun _ _ h=>h) (fun _ _ h=>h.elim)⟩
theorem PS.turnD (h:PS K W0 w d ts st b us tt) {f:FuncId} {args:Array Value} {R:Ending->Prop} {ts':List T} {Q:List DT->Prop}
  (hc:∀ Od,Dd w d ts st Od->Calls Tryz.prog f args w fun e w'=>R e/\∃ st' O',Q st'/\Dd w' d ts' st' O'/\Ext w Od O'/\Tn (fun q=>Od q≠0) w w') :
  Calls Tryz.prog f args w fun e w'=>R e/\∃ st',Q st'/\PS K W0 w' d ts' st' b us tt:=by
 obtain⟨Od,Ob,i,h1,h2,h3,h4,h5⟩:=h;refine (hc Od h1).mono ?_;rintro e w' ⟨hR,st',O',hQ,hD,hE,hT⟩;have hlt:∀ q,Ob q≠0->q<w.heap.size:=h2.lt;refine⟨hR,st',hQ,O',Ob,i,hD,h2.tn hT (fun q hq=>h3 q hq),fun q hq=>?_,fun q hq=>?_,h5.trans hT (fun _ _ h=>h) (fun q _ hq hK=>hq (h4 q hK).2.1)⟩
 ·refine Classical.byContradiction fun hn=>?_
  have hl:=hlt q hn;rw[hE q hl] at hq;exact hn (h3 q hq)
 obtain⟨k1,k2,k3⟩:=h4 q hq;exact⟨k1,(hE q (Nat.lt_of_lt_of_le k1 h5.size)).trans k2,k3⟩
theorem PS.turnN (h:PS K W0 w d ts st b us tt) {f:FuncId} {args:Array Value} {R:Ending->Prop} {us':List T} {tt':List RT}
  (hc:∀ i Ob,DbN w b us tt i Ob->Calls Tryz.prog f args w fun e w'=>R e/\∃ i' O',DbN w' b us' tt' i' O'/\Ext w Ob O'/\Tn (fun q=>Ob q≠0) w w') :
  Calls Tryz.prog f args w fun e w'=>R e/\PS K W0 w' d ts st b us' tt':=by
 obtain⟨Od,Ob,i,h1,h2,h3,h4,h5⟩:=h;refine (hc i Ob h2).mono ?_;rintro e w' ⟨hR,i',O',hD,hE,hT⟩;refine⟨hR,Od,O',i',h1.tn hT (fun q hq=>Classical.byContradiction fun hn=>hq (h3 q hn)),hD,fun q hq=>?_,fun q hq=>?_,h5.trans hT (fun _ _ h=>h) (fun q _ hq hK=>hq (h4 q hK).2.2)⟩
 ·rw[hE q (h1.lt q hq)];exact h3 q hq
 obtain⟨k1,k2,k3⟩:=h4 q hq;exact⟨k1,k2,(hE q (Nat.lt_of_lt_of_le k1 h5.size)).trans k3⟩
theorem PS.addD (h:PS K W0 w d ts st b us tt) (hT:RdT w cv dv t) (hsm:SmQ t) (hyes:cB ts t=0) (hfew:bU ts) :
  Calls Tryz.prog 32 #[.pointer (some ⟨d,0,none⟩),.agg #[.string t.nm,cv,.string t.key,dv]] w fun e w'=>e=.returned (.int .i64 0)/\∃ st',(∃ tb,st'=st++[(tb,0,[])])/\PS K W0 w' d (ts++[aY t]) st' b us tt :=
 h.turnD (R:=fun e=>e=.returned (.int .i64 0)) (Q:=fun st'=>∃ tb,st'=st++[(tb,0,[])]) (fun Od hD=>(aDB hD hT hsm hyes hfew).mono (by
  rintro e w' ⟨rfl,tb,O',k1,k2,k3⟩;exact⟨rfl,_,O',⟨tb,rfl⟩,k1,k2,k3.mono (fun q _ hq=>by have hq:Od q=1:=hq;show Od q≠0;omega)⟩))
theorem PS.addN (h:PS K W0 w d ts st b us tt) (hi:InvQ us) (hT:RdT w cv dv t) (hsm:SmQ t) (hyes:cB us t=0) (h0:0<t.cols.length) (hc:t.cols.length<=1000) :
  Calls Tryz.prog 33 #[.pointer (some ⟨b,0,none⟩),.agg #[.string t.nm,cv,.string t.key,dv]] w fun e w'=>e=.returned (.int .i64 0)/\PS K W0 w' d ts st b (us++[aY t]) (tt++[rt0]) :=
 h.turnN (R:=fun e=>e=.returned (.int .i64 0)) (fun i Ob hD=>(aDG hD hi hT hsm hyes h0 hc (by have:=hi.len;omega)).mono (by
  rintro e w' ⟨rfl,i',O',k1,k2,k3⟩;exact⟨rfl,i',O',k1,k2,k3.mono (fun q _ hq=>hq.1)⟩))
theorem PS.still (h:PS K W0 w d ts st b us tt) {q:Nat} (hq:K q):w.heap[q]?=W0.heap[q]?:=by
 obtain⟨_,_,_,_,_,_,h4,h5⟩:=h;exact h5.chg.block q (h4 q hq).1 (fun hn=>hn hq)
theorem PS.kpX (h:PS K W0 w d ts st b us tt):Kp W0 w:=by
 obtain⟨_,_,_,_,_,_,_,h5⟩:=h;exact h5.kpX
end
theorem PS.new (W w3:World) (hb:Below ((W.alloc (.cells (fL++[Value.int .i64 0,Value.map none]).toArray 87)).alloc (.cells #[.slice none 0 0,.slice none 0 0,.slice none 0 0] 54)).heap.size ((W.alloc (.cells (fL++[Value.int .i64 0,Value.map none]).toArray 87)).alloc (.cells #[.slice none 0 0,.slice none 0 0,.slice none 0 0] 54)) w3) :
  PS (fun q=>q<w3.heap.size/\q≠W.heap.size/\q≠W.heap.size+1) w3 w3 W.heap.size [] [] (W.heap.size+1) [] []:=by
 have h1:=((Dd.new W).later (aC _ (.cells #[.slice none 0 0,.slice none 0 0,.slice none 0 0] 54))).later hb;have h2:=(DbN.new (W.alloc (.cells (fL++[Value.int .i64 0,Value.map none]).toArray 87))).later hb;rw[qPq] at h2;refine⟨_,_,_,h1,h2,fun q hq=>?_,fun q hq=>⟨hq.1,?_,?_⟩,Tn.refl _ _⟩
 ·unfold tQ at hq ⊢;by_cases e:q=W.heap.size
  ·rw[if_neg (by omega)]
  rw[if_neg e] at hq;exact absurd rfl hq
 ·unfold tQ;rw[if_neg hq.2.1]
 unfold tQ;rw[if_neg hq.2.2]
theorem aFv (W:World):Calls Tryz.prog 31 #[] W fun e w'=>e=.returned (sl (W.heap.size+8) 4)/\RdTs w' (sl (W.heap.size+8) 4) cE/\Below W.heap.size W w':=by
 have HM:=qAq (qBq (uQ W) (kJ (uP W.heap.size) W));go_enter Tryz.func31,Tryz.ntmps31;go_wp2_with fail;go_ret;exact⟨rfl,HM.out.1,HM.out.2⟩
def pre (j:Nat):List T:=(cE.take j).map aY
theorem wG (j:Nat) (h:j<cE.length):pre j++[aY cE[j]]=pre (j+1):=by
 unfold pre;rw[List.take_succ_eq_append_getElem h,List.map_append];rfl
theorem aAP:∀ j (h:j<cE.length),cB (pre j) cE[j]=0
 | 0,_=>by kernel_rfl
 | 1,_=>by kernel_rfl
 | 2,_=>by kernel_rfl
 | 3,_=>by kernel_rfl
 | j+4,h=>absurd h (by simp[cE])
theorem aBU:∀ j (h:j<cE.length),0<cE[j].cols.length/\cE[j].cols.length<=1000
 | 0,_=>⟨by show 0<2;decide,by show 2<=1000;decide⟩
 | 1,_=>⟨by show 0<4;decide,by show 4<=1000;decide⟩
 | 2,_=>⟨by show 0<3;decide,by show 3<=1000;decide⟩
 | 3,_=>⟨by show 0<4;decide,by show 4<=1000;decide⟩
 | j+4,h=>absurd h (by simp[cE])
theorem wH:∀ j (h:j<cE.length),SmQ cE[j]:=fun j h=>by
 have hs:∀ x:ByteArray,x.size<=20->x.size<=maxLen:=fun x hx=>by unfold maxLen;omega
 have hall:∀ t∈cE,SmQ t:=by
  intro t ht;simp only[cE,List.mem_cons,List.not_mem_nil,or_false] at ht;rcases ht with rfl|rfl|rfl|rfl
  all_goals
   refine⟨hs _ (by decide),fun c hc=>hs _ ?_⟩
   revert c hc
   decide
 exact hall _ (List.getElem_mem h)
theorem inv_of (l:List T) (h0:l.length<=8) (h1:l.all (fun t=>t.cols.all fun c=>named c.nm)=true) (h2:l.all bD=true) (h3:∀ i (hi:i<l.length),aS l l[i].nm=some l[i]/\ixT l l[i].nm=(i:Int)):InvQ l :=
 ⟨h0,fun t ht c hc=>List.all_eq_true.1 (List.all_eq_true.1 h1 t ht) c hc,fun t ht=>List.all_eq_true.1 h2 t ht,h3⟩
theorem eD:∀ j,j<=4->InvQ (pre j)
 | 0,_=>inv_of _ (by show 0<=8;decide) (by kernel_rfl) (by kernel_rfl) (fun i hi=>match i,hi with
  | i+0,hi=>absurd hi (by show ¬ i+0<0;omega))
 | 1,_=>inv_of _ (by show 1<=8;decide) (by kernel_rfl) (by kernel_rfl) (fun i hi=>match i,hi with
  | 0,_=>⟨by kernel_rfl,by kernel_rfl⟩
  | i+1,hi=>absurd hi (by show ¬ i+1<1;omega))
 | 2,_=>inv_of _ (by show 2<=8;decide) (by kernel_rfl) (by kernel_rfl) (fun i hi=>match i,hi with
  | 0,_=>⟨by kernel_rfl,by kernel_rfl⟩
  | 1,_=>⟨by kernel_rfl,by kernel_rfl⟩
  | i+2,hi=>absurd hi (by show ¬ i+2<2;omega))
 | 3,_=>inv_of _ (by show 3<=8;decide) (by kernel_rfl) (by kernel_rfl) (fun i hi=>match i,hi with
  | 0,_=>⟨by kernel_rfl,by kernel_rfl⟩
  | 1,_=>⟨by kernel_rfl,by kernel_rfl⟩
  | 2,_=>⟨by kernel_rfl,by kernel_rfl⟩
  | i+3,hi=>absurd hi (by show ¬ i+3<3;omega))
 | 4,_=>inv_of _ (by show 4<=8;decide) (by kernel_rfl) (by kernel_rfl) (fun i hi=>match i,hi with
  | 0,_=>⟨by kernel_rfl,by kernel_rfl⟩
  | 1,_=>⟨by kernel_rfl,by kernel_rfl⟩
  | 2,_=>⟨by kernel_rfl,by kernel_rfl⟩
  | 3,_=>⟨by kernel_rfl,by kernel_rfl⟩
  | i+4,hi=>absurd hi (by show ¬ i+4<4;omega))
 | j+5,h=>absurd h (by omega)
theorem aDJ:∀ t∈cE,Few t:=by
 intro t ht;simp only[cE,List.mem_cons,List.not_mem_nil,or_false] at ht;rcases ht with rfl|rfl|rfl|rfl
 all_goals exact⟨by decide,by decide,by decide⟩
theorem dH (j:Nat):bU (pre j):=fun t ht=>by
 unfold pre at ht;obtain⟨u,hu,rfl⟩:=List.mem_map.1 ht;exact vV (aDJ u (List.mem_of_mem_take hu))
theorem zE (W:World):Calls Tryz.prog 12 #[] W fun e w'=>e=.returned (.tuple #[(Value.pointer (some ⟨W.heap.size,0,none⟩)),(Value.pointer (some ⟨W.heap.size+1,0,none⟩))])/\∃ (K:Nat->Prop) (w3:World) (st:List DT),Below W.heap.size W w3/\(∀ q,q<W.heap.size->K q)/\PS K w3 w' W.heap.size (pre 4) st (W.heap.size+1) (pre 4) (List.replicate 4 rt0)/\st.map (·.2)=List.replicate 4 (0,[]):=by
 have hnew:=aDI W;have hba:=aC W (.cells (fL++[Value.int .i64 0,Value.map none]).toArray 87);have hbb:=aB hba (aC (W.alloc (.cells (fL++[Value.int .i64 0,Value.map none]).toArray 87)) (.cells #[.slice none 0 0,.slice none 0 0,.slice none 0 0] 54));have hst:=aFv ((W.alloc (.cells (fL++[Value.int .i64 0,Value.map none]).toArray 87)).alloc (.cells #[.slice none 0 0,.slice none 0 0,.slice none 0 0] 54));have hps:=PS.new W;obtain⟨w1,hw1⟩:∃ w1,W.alloc (.cells (fL++[Value.int .i64 0,Value.map none]).toArray 87)=w1:=⟨_,rfl⟩;have hz1:w1.heap.size=W.heap.size+1:=(by rw[<- hw1,qPq]);rw[hw1] at hnew hbb hst hps;obtain⟨w2,hw2⟩:∃ w2,w1.alloc (.cells #[.slice none 0 0,.slice none 0 0,.slice none 0 0] 54)=w2:=⟨_,rfl⟩;have hz2:w2.heap.size=W.heap.size+2:=(by rw[<- hw2,qPq,hz1]);rw[hw2] at hbb hst hps;obtain⟨d,hd⟩:∃ d,W.heap.size=d:=⟨_,rfl⟩;rw[hz2,hd] at hst;rw[hd] at hz1 hps hnew;have HW2:=qAq hw2;have HZ1:=qAq hz1;have HB:=qAq (qBq hbb (qBq hz2 (qBq hd hps)));rw[hd];clear hw1 hw2 hz1 hz2 hba hbb hd hps;go_enter Tryz.func12,Tryz.ntmps12;go_upto_region 2 with (go_at_call 22;(with_reducible refine hnew.mono ?_);rintro e wx ⟨rfl,hw⟩;subst hw;clear hnew);rw[HW2.out,HZ1.out];unfold sl at hst;go_wp2_with (go_at_call 31;(with_reducible refine hst.mono ?_);rintro e w3 ⟨rfl,hR,hb3⟩;have hb3:Below w2.heap.size w2 w3:=(by rw[HB.out.2.1,HB.out.2.2.1];exact hb3);have hP0:=HB.out.2.2.2 w3 hb3;have H3:=qAq (qBq hR (qBq hb3 hP0));clear hst hR hb3 hP0);go_loopg [5] 5 (fun gh jv w=>∃ (j:Nat) (st:List DT),jv=.int .i64 (j:Int)/\j<=4/\5<=j+gh/\PS (fun q=>q<w3.heap.size/\q≠d/\q≠d+1) w3 w d (pre j) st (d+1) (pre j) (List.replicate j rt0)/\st.map (·.2)=List.replicate j (0,[]))
 case atStart=>exact⟨0,[],rfl,by omega,by omega,H3.out.2.2,rfl⟩
 obtain⟨j,st,rfl,hj,hg,hP,hS⟩:=hrel;by_cases hlt:j<4
 ·have hji:(j:Int)<4:=(by omega);have hjs:j<cE.length:=hlt;obtain⟨b0,off,cv,dv,e,hb0,c0,c1,c2,c3,hrt⟩:=RdTs.tab H3.out.1 hjs;cases e;have hK:∀ {w:World} {st':List DT} {us ts':List T} {tt':List RT},PS (fun q=>q<w3.heap.size/\q≠d/\q≠d+1) w3 w d ts' st' (d+1) us tt'->w.heap[d+2+8]?=w3.heap[d+2+8]?:=fun h=>h.still ⟨hb0,by omega,by omega⟩
  have hcell:∀ (w:World) (st':List DT) (us ts':List T) (tt':List RT),PS (fun q=>q<w3.heap.size/\q≠d/\q≠d+1) w3 w d ts' st' (d+1) us tt'->w.cell? ⟨d+2+8,j*4,none⟩=some (.string cE[j].nm)/\w.cell? ⟨d+2+8,j*4+1,none⟩=some cv/\w.cell? ⟨d+2+8,j*4+2,none⟩=some (.string cE[j].key)/\w.cell? ⟨d+2+8,j*4+3,none⟩=some dv/\RdT w cv dv cE[j]:=fun w st' us ts' tt' h=>by
   have hk:=hK h;rw[Nat.zero_add] at c0 c1 c2 c3;exact⟨(World.cell?_of_block (w:=w3) hk).trans c0,(World.cell?_of_block (w:=w3) hk).trans c1,(World.cell?_of_block (w:=w3) hk).trans c2,(World.cell?_of_block (w:=w3) hk).trans c3,hrt.kp h.kpX⟩
  have hadd:=(fun (h:RdT wr cv dv cE[j])=>hP.addD h (wH j hjs) (aAP j hjs) (dH j));rw[wG] at hadd;obtain⟨y0,y1,y2,y3,yr⟩:=hcell _ _ _ _ _ hP;have hadd:=hadd yr;have hcols:=aBU j hjs;have haddN:=(fun (w:World) (st':List DT) (h:PS (fun q=>q<w3.heap.size/\q≠d/\q≠d+1) w3 w d (pre (j+1)) st' (d+1) (pre j) (List.replicate j rt0)) (hr:RdT w cv dv cE[j])=>h.addN (eD j (by omega)) hr (wH j hjs) (aAP j hjs) hcols.1 hcols.2);rw[wG] at haddN;obtain⟨pc,kc,rfl,_,_⟩:=hrt.1.slice;obtain⟨pd,kd,rfl,_,_⟩:=hrt.2.slice;generalize cE[j]=t at *;obtain⟨nc,hnc⟩:∃ n,t.cols.length=n:=⟨_,rfl⟩;obtain⟨nd,hnd⟩:∃ n,t.deps.length=n:=⟨_,rfl⟩;rw[hnc,hnd] at *;have HCell:=qAq hcell;have HAdd:=qAq haddN;have HS:=qAq hS;clear hcell haddN hK hP hS yr c0 c1 c2 c3 hrt hcols;go_upto_region 7 with (go_at_call 32;(with_reducible refine hadd.mono ?_);rintro e w4 ⟨rfl,st',⟨tb,rfl⟩,hP4⟩;have HP4:=qAq hP4;clear hadd hP4);obtain⟨x0,x1,x2,x3,xr⟩:=HCell.out _ _ _ _ _ HP4.out;have haddn:=HAdd.out _ _ HP4.out xr;clear y0 y1 y2 y3 xr;go_wp2_with (go_at_call 33;(with_reducible refine haddn.mono ?_);rintro e w5 ⟨rfl,hP5⟩;have HP5:=qAq hP5;clear haddn hP5);go_roundg (4-j)
  case measure=>omega
  refine⟨j+1,st++[(tb,0,[])],rfl,by omega,by omega,?_,?_⟩
  ·have:=HP5.out
   rw[<- List.replicate_succ'] at this;exact this
  rw[List.map_append,HS.out,List.replicate_succ'];rfl
 obtain rfl:j=4:=(by omega);have HP:=qAq (qBq hP hS);clear hP hS hlt;go_wp2_with fail;go_ret2;have hw:=HB.out.2.1;have hd:=HB.out.2.2.1;have hs:=H3.out.2.1.size;exact⟨rfl,_,w3,st,hd▸aB HB.out.1 H3.out.2.1,fun q hq=>⟨by omega,by omega,by omega⟩,HP.out.1,HP.out.2⟩
