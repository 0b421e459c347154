import Derived.Test.YthlccadnojnkaaaGreatZk37
import Derived.Test.YthlccadnojnkaaaGreatZk34
import Derived.Test.YthlccadnojnkaaaGreatZk38
set_option maxHeartbeats 4000000
set_option maxRecDepth 100000
namespace Go.Proofs.YthlccadnojnkaaaGreat
open Go Go.RowKit Go.Proofs Co Co.S
def zero91:List Value:=(List.replicate 8 [Value.string e0,.slice none 0 0,.string e0,.slice none 0 0]).flatten
def newO (d:Nat) (q:Nat):Nat:=if q=d then 1 else 0
theorem Dd.new (W:World):Dd (W.alloc (.cells (zero91++[Value.int .i64 0,Value.map none]).toArray 122)) W.heap.size [] [] (newO W.heap.size):=by
 have hb:=heap_alloc_new W (.cells (zero91++[Value.int .i64 0,Value.map none]).toArray 122);refine⟨⟨.map none,fun _=>none,0,⟨by decide,[],zero91,?_,rfl,?_⟩,.inl ⟨rfl,rfl,fun _=>rfl⟩,fun j h=>absurd h (Nat.not_lt_zero _),fun _ _=>rfl,fun b hb=>(by cases hb)⟩,rfl,fun j _ h=>absurd h (Nat.not_lt_zero _),by unfold newO;rw[if_pos rfl],fun j h=>absurd h (Nat.not_lt_zero _),fun q hq=>?_⟩
 ·rw[hb];rfl
 ·exact⟨rfl,fun j hj=>absurd hj (Nat.not_lt_zero _)⟩
 unfold newO at hq;by_cases e:q=W.heap.size
 ·rw[e,World.size_alloc];omega
 rw[if_neg e] at hq;exact absurd rfl hq
theorem DbN.new (W:World):DbN (W.alloc (.cells #[.slice none 0 0,.slice none 0 0,.slice none 0 0] 71)) W.heap.size [] [] ⟨.slice none 0 0,.slice none 0 0,.slice none 0 0,[]⟩ (newO W.heap.size):=by
 have hb:=heap_alloc_new W (.cells #[.slice none 0 0,.slice none 0 0,.slice none 0 0] 71);refine⟨hb,rfl,rfl,HRow.nil,fun j h=>absurd h (Nat.not_lt_zero _),HRow.nil,HRow.nil,fun j h=>absurd h (Nat.not_lt_zero _),by unfold newO;rw[if_pos rfl],fun _ h=>(by cases h),fun _ h=>(by cases h),fun _ h=>(by cases h),fun q hq=>?_⟩;unfold newO at hq;by_cases e:q=W.heap.size
 ·rw[e,World.size_alloc];omega
 rw[if_neg e] at hq;exact absurd rfl hq
theorem aDD (W:World):Calls Tryz.prog 32 #[] W fun e w'=>e=.returned (Value.pointer (some ⟨W.heap.size,0,none⟩))/\w'=W.alloc (.cells (zero91++[Value.int .i64 0,Value.map none]).toArray 122):=by
 go_enter Tryz.func32,Tryz.ntmps32;go_wp2_with fail;go_ret;exact⟨rfl,rfl⟩
def PS (K:Nat->Prop) (W0 w:World) (d:Nat) (ts:List T) (st:List DT) (b:Nat) (us:List T) (tt:List RT):Prop :=
 ∃ Od Ob i,Dd w d ts st Od/\DbN w b us tt i Ob/\(∀ q,Od q≠0->Ob q=0)/\(∀ q,K q->q<W0.heap.size/\Od q=0/\Ob q=0)/\Tn (fun q=>¬ K q) W0 w
section
variable {K:Nat->Prop} {W0 w w':World} {d b:Nat} {ts us:List T} {st:List DT} {tt:List RT} {t:T} {cv dv:Value}
theorem PS.later (h:PS K W0 w d ts st b us tt) (hb:Below w.heap.size w w'):PS K W0 w' d ts st b us tt:=by
 obtain⟨Od,Ob,i,h1,h2,h3,h4,h5⟩:=h;exact⟨Od,Ob,i,h1.later hb,h2.later hb,h3,h4,h5.trans (Tn.of_below (S:=fun _=>False) hb) (fun _ _ h=>h) (fun _ _ h=>h.elim)⟩
theorem PS.turnD (h:PS K W0 w d ts st b us tt) {f:FuncId} {args:Array Value} {R:Ending->Prop} {ts':List T} {Q:List DT->Prop}
  (hc:∀ Od,Dd w d ts st Od->Calls Tryz.prog f args w fun e w'=>R e/\∃ st' O',Q st'/\Dd w' d ts' st' O'/\Ext w Od O'/\Tn (fun q=>Od q≠0) w w') :
  Calls Tryz.prog f args w fun e w'=>R e/\∃ st',Q st'/\PS K W0 w' d ts' st' b us tt:=by
 obtain⟨Od,Ob,i,h1,h2,h3,h4,h5⟩:=h;refine (hc Od h1).mono ?_;rintro e w' ⟨hR,st',O',hQ,hD,hE,hT⟩;have hlt:∀ q,Ob q≠0->q<w.heap.size:=h2.lt;refine⟨hR,st',hQ,O',Ob,i,hD,h2.tn hT (fun q hq=>h3 q hq),fun q hq=>?_,fun q hq=>?_,h5.trans hT (fun _ _ h=>h) (fun q _ hq hK=>hq (h4 q hK).2.1)⟩
 ·refine Classical.byContradiction fun hn=>?_
  have hl:=hlt q hn;rw[hE q hl] at hq;exact hn (h3 q hq)
 obtain⟨k1,k2,k3⟩:=h4 q hq;exact⟨k1,(hE q (Nat.lt_of_lt_of_le k1 h5.size)).trans k2,k3⟩
theorem PS.turnN (h:PS K W0 w d ts st b us tt) {f:FuncId} {args:Array Value} {R:Ending->Prop} {us':List T} {tt':List RT}
  (hc:∀ i Ob,DbN w b us tt i Ob->Calls Tryz.prog f args w fun e w'=>R e/\∃ i' O',DbN w' b us' tt' i' O'/\Ext w Ob O'/\Tn (fun q=>Ob q≠0) w w') :
  Calls Tryz.prog f args w fun e w'=>R e/\PS K W0 w' d ts st b us' tt':=by
 obtain⟨Od,Ob,i,h1,h2,h3,h4,h5⟩:=h;refine (hc i Ob h2).mono ?_;rintro e w' ⟨hR,i',O',hD,hE,hT⟩;refine⟨hR,Od,O',i',h1.tn hT (fun q hq=>Classical.byContradiction fun hn=>hq (h3 q hn)),hD,fun q hq=>?_,fun q hq=>?_,h5.trans hT (fun _ _ h=>h) (fun q _ hq hK=>hq (h4 q hK).2.2)⟩
 ·rw[hE q (h1.lt q hq)];exact h3 q hq
 obtain⟨k1,k2,k3⟩:=h4 q hq;exact⟨k1,k2,(hE q (Nat.lt_of_lt_of_le k1 h5.size)).trans k3⟩
theorem PS.addD (h:PS K W0 w d ts st b us tt) (hT:RdT w cv dv t) (hsm:SmQ t) (hyes:mayP ts t=0) (hfew:AllFew ts) :
  Calls Tryz.prog 34 #[.pointer (some ⟨d,0,none⟩),.agg #[.string t.nm,cv,.string t.key,dv]] w fun e w'=>e=.returned (.int .i64 0)/\∃ st',(∃ tb,st'=st++[(tb,0,[])])/\PS K W0 w' d (ts++[formT t]) st' b us tt :=
 h.turnD (R:=fun e=>e=.returned (.int .i64 0)) (Q:=fun st'=>∃ tb,st'=st++[(tb,0,[])]) (fun Od hD=>(aDw hD hT hsm hyes hfew).mono (by
  rintro e w' ⟨rfl,tb,O',k1,k2,k3⟩;exact⟨rfl,_,O',⟨tb,rfl⟩,k1,k2,k3.mono (fun q _ hq=>by have hq:Od q=1:=hq;show Od q≠0;omega)⟩))
theorem PS.addN (h:PS K W0 w d ts st b us tt) (hi:InvQ us) (hT:RdT w cv dv t) (hsm:SmQ t) (hyes:mayP us t=0) (h0:0<t.cols.length) (hc:t.cols.length<=1000) :
  Calls Tryz.prog 35 #[.pointer (some ⟨b,0,none⟩),.agg #[.string t.nm,cv,.string t.key,dv]] w fun e w'=>e=.returned (.int .i64 0)/\PS K W0 w' d ts st b (us++[formT t]) (tt++[rt0]) :=
 h.turnN (R:=fun e=>e=.returned (.int .i64 0)) (fun i Ob hD=>(aDB hD hi hT hsm hyes h0 hc (by have:=hi.len;omega)).mono (by
  rintro e w' ⟨rfl,i',O',k1,k2,k3⟩;exact⟨rfl,i',O',k1,k2,k3.mono (fun q _ hq=>hq.1)⟩))
theorem PS.still (h:PS K W0 w d ts st b us tt) {q:Nat} (hq:K q):w.heap[q]?=W0.heap[q]?:=by
 obtain⟨_,_,_,_,_,_,h4,h5⟩:=h;exact h5.chg.block q (h4 q hq).1 (fun hn=>hn hq)
theorem PS.kpX (h:PS K W0 w d ts st b us tt):Kp W0 w:=by
 obtain⟨_,_,_,_,_,_,_,h5⟩:=h;exact h5.kpX
end
theorem PS.new (W w3:World) (hb:Below ((W.alloc (.cells (zero91++[Value.int .i64 0,Value.map none]).toArray 122)).alloc (.cells #[.slice none 0 0,.slice none 0 0,.slice none 0 0] 71)).heap.size ((W.alloc (.cells (zero91++[Value.int .i64 0,Value.map none]).toArray 122)).alloc (.cells #[.slice none 0 0,.slice none 0 0,.slice none 0 0] 71)) w3) :
  PS (fun q=>q<w3.heap.size/\q≠W.heap.size/\q≠W.heap.size+1) w3 w3 W.heap.size [] [] (W.heap.size+1) [] []:=by
 have h1:=((Dd.new W).later (aD _ (.cells #[.slice none 0 0,.slice none 0 0,.slice none 0 0] 71))).later hb;have h2:=(DbN.new (W.alloc (.cells (zero91++[Value.int .i64 0,Value.map none]).toArray 122))).later hb;rw[World.size_alloc] at h2;refine⟨_,_,_,h1,h2,fun q hq=>?_,fun q hq=>⟨hq.1,?_,?_⟩,Tn.refl _ _⟩
 ·unfold newO at hq ⊢;by_cases e:q=W.heap.size
  ·rw[if_neg (by omega)]
  rw[if_neg e] at hq;exact absurd rfl hq
 ·unfold newO;rw[if_neg hq.2.1]
 unfold newO;rw[if_neg hq.2.2]
theorem aFy (W:World):Calls Tryz.prog 33 #[] W fun e w'=>e=.returned (sl (W.heap.size+8) 4)/\RdTs w' (sl (W.heap.size+8) 4) starT/\Below W.heap.size W w':=by
 have HM:=qAq (qBq (sV W) (gY (starO W.heap.size) W));go_enter Tryz.func33,Tryz.ntmps33;go_wp2_with fail;go_ret;exact⟨rfl,HM.out.1,HM.out.2⟩
def pre (j:Nat):List T:=(starT.take j).map formT
theorem uE (j:Nat) (h:j<starT.length):pre j++[formT starT[j]]=pre (j+1):=by
 unfold pre;rw[List.take_succ_eq_append_getElem h,List.map_append];rfl
theorem aAk:∀ j (h:j<starT.length),mayP (pre j) starT[j]=0
 | 0,_=>by kernel_rfl
 | 1,_=>by kernel_rfl
 | 2,_=>by kernel_rfl
 | 3,_=>by kernel_rfl
 | j+4,h=>absurd h (by simp[starT])
theorem aBJ:∀ j (h:j<starT.length),0<starT[j].cols.length/\starT[j].cols.length<=1000
 | 0,_=>⟨by show 0<2;decide,by show 2<=1000;decide⟩
 | 1,_=>⟨by show 0<4;decide,by show 4<=1000;decide⟩
 | 2,_=>⟨by show 0<3;decide,by show 3<=1000;decide⟩
 | 3,_=>⟨by show 0<4;decide,by show 4<=1000;decide⟩
 | j+4,h=>absurd h (by simp[starT])
theorem uF:∀ j (h:j<starT.length),SmQ starT[j]:=fun j h=>by
 have hs:∀ x:ByteArray,x.size<=20->x.size<=maxLen:=fun x hx=>by unfold maxLen;omega
 have hall:∀ t∈starT,SmQ t:=by
  intro t ht;simp only[starT,List.mem_cons,List.not_mem_nil,or_false] at ht;rcases ht with rfl|rfl|rfl|rfl
  all_goals
   refine⟨hs _ (by decide),fun c hc=>hs _ ?_⟩
   revert c hc
   decide
 exact hall _ (List.getElem_mem h)
theorem nP (l:List T) (h0:l.length<=8) (h1:l.all (fun t=>t.cols.all fun c=>named c.nm)=true) (h2:l.all keyGood=true) (h3:∀ i (hi:i<l.length),findT l l[i].nm=some l[i]/\ixT l l[i].nm=(i:Int)):InvQ l :=
 ⟨h0,fun t ht c hc=>List.all_eq_true.1 (List.all_eq_true.1 h1 t ht) c hc,fun t ht=>List.all_eq_true.1 h2 t ht,h3⟩
theorem cO:∀ j,j<=4->InvQ (pre j)
 | 0,_=>nP _ (by show 0<=8;decide) (by kernel_rfl) (by kernel_rfl) (fun i hi=>match i,hi with
  | i+0,hi=>absurd hi (by show ¬ i+0<0;omega))
 | 1,_=>nP _ (by show 1<=8;decide) (by kernel_rfl) (by kernel_rfl) (fun i hi=>match i,hi with
  | 0,_=>⟨by kernel_rfl,by kernel_rfl⟩
  | i+1,hi=>absurd hi (by show ¬ i+1<1;omega))
 | 2,_=>nP _ (by show 2<=8;decide) (by kernel_rfl) (by kernel_rfl) (fun i hi=>match i,hi with
  | 0,_=>⟨by kernel_rfl,by kernel_rfl⟩
  | 1,_=>⟨by kernel_rfl,by kernel_rfl⟩
  | i+2,hi=>absurd hi (by show ¬ i+2<2;omega))
 | 3,_=>nP _ (by show 3<=8;decide) (by kernel_rfl) (by kernel_rfl) (fun i hi=>match i,hi with
  | 0,_=>⟨by kernel_rfl,by kernel_rfl⟩
  | 1,_=>⟨by kernel_rfl,by kernel_rfl⟩
  | 2,_=>⟨by kernel_rfl,by kernel_rfl⟩
  | i+3,hi=>absurd hi (by show ¬ i+3<3;omega))
 | 4,_=>nP _ (by show 4<=8;decide) (by kernel_rfl) (by kernel_rfl) (fun i hi=>match i,hi with
  | 0,_=>⟨by kernel_rfl,by kernel_rfl⟩
  | 1,_=>⟨by kernel_rfl,by kernel_rfl⟩
  | 2,_=>⟨by kernel_rfl,by kernel_rfl⟩
  | 3,_=>⟨by kernel_rfl,by kernel_rfl⟩
  | i+4,hi=>absurd hi (by show ¬ i+4<4;omega))
 | j+5,h=>absurd h (by omega)
theorem aDE:∀ t∈starT,Few t:=by
 intro t ht;simp only[starT,List.mem_cons,List.not_mem_nil,or_false] at ht;rcases ht with rfl|rfl|rfl|rfl
 all_goals exact⟨by decide,by decide,by decide⟩
theorem bQ (j:Nat):AllFew (pre j):=fun t ht=>by
 unfold pre at ht;obtain⟨u,hu,rfl⟩:=List.mem_map.1 ht;exact tZ (aDE u (List.mem_of_mem_take hu))
theorem xW (W:World):Calls Tryz.prog 13 #[] W fun e w'=>e=.returned (.tuple #[(Value.pointer (some ⟨W.heap.size,0,none⟩)),(Value.pointer (some ⟨W.heap.size+1,0,none⟩))])/\∃ (K:Nat->Prop) (w3:World) (st:List DT),Below W.heap.size W w3/\(∀ q,q<W.heap.size->K q)/\PS K w3 w' W.heap.size (pre 4) st (W.heap.size+1) (pre 4) (List.replicate 4 rt0)/\st.map (·.2)=List.replicate 4 (0,[]):=by
 have hnew:=aDD W;have hba:=aD W (.cells (zero91++[Value.int .i64 0,Value.map none]).toArray 122);have hbb:=aB hba (aD (W.alloc (.cells (zero91++[Value.int .i64 0,Value.map none]).toArray 122)) (.cells #[.slice none 0 0,.slice none 0 0,.slice none 0 0] 71));have hst:=aFy ((W.alloc (.cells (zero91++[Value.int .i64 0,Value.map none]).toArray 122)).alloc (.cells #[.slice none 0 0,.slice none 0 0,.slice none 0 0] 71));have hps:=PS.new W;obtain⟨w1,hw1⟩:∃ w1,W.alloc (.cells (zero91++[Value.int .i64 0,Value.map none]).toArray 122)=w1:=⟨_,rfl⟩;have hz1:w1.heap.size=W.heap.size+1:=(by rw[<- hw1,World.size_alloc]);rw[hw1] at hnew hbb hst hps;obtain⟨w2,hw2⟩:∃ w2,w1.alloc (.cells #[.slice none 0 0,.slice none 0 0,.slice none 0 0] 71)=w2:=⟨_,rfl⟩;have hz2:w2.heap.size=W.heap.size+2:=(by rw[<- hw2,World.size_alloc,hz1]);rw[hw2] at hbb hst hps;obtain⟨d,hd⟩:∃ d,W.heap.size=d:=⟨_,rfl⟩;rw[hz2,hd] at hst;rw[hd] at hz1 hps hnew;have HW2:=qAq hw2;have HZ1:=qAq hz1;have HB:=qAq (qBq hbb (qBq hz2 (qBq hd hps)));rw[hd];clear hw1 hw2 hz1 hz2 hba hbb hd hps;go_enter Tryz.func13,Tryz.ntmps13;go_upto_region 2 with (go_at_call 32;(with_reducible refine hnew.mono ?_);rintro e wx ⟨rfl,hw⟩;subst hw;clear hnew);rw[HW2.out,HZ1.out];unfold sl at hst;go_wp2_with (go_at_call 33;(with_reducible refine hst.mono ?_);rintro e w3 ⟨rfl,hR,hb3⟩;have hb3:Below w2.heap.size w2 w3:=(by rw[HB.out.2.1,HB.out.2.2.1];exact hb3);have hP0:=HB.out.2.2.2 w3 hb3;have H3:=qAq (qBq hR (qBq hb3 hP0));clear hst hR hb3 hP0);go_loopg [5] 5 (fun gh jv w=>∃ (j:Nat) (st:List DT),jv=.int .i64 (j:Int)/\j<=4/\5<=j+gh/\PS (fun q=>q<w3.heap.size/\q≠d/\q≠d+1) w3 w d (pre j) st (d+1) (pre j) (List.replicate j rt0)/\st.map (·.2)=List.replicate j (0,[]))
 case atStart=>exact⟨0,[],rfl,by omega,by omega,H3.out.2.2,rfl⟩
 obtain⟨j,st,rfl,hj,hg,hP,hS⟩:=hrel;by_cases hlt:j<4
 ·have hji:(j:Int)<4:=(by omega);have hjs:j<starT.length:=hlt;obtain⟨b0,off,cv,dv,e,hb0,c0,c1,c2,c3,hrt⟩:=RdTs.tab H3.out.1 hjs;cases e;have hK:∀ {w:World} {st':List DT} {us ts':List T} {tt':List RT},PS (fun q=>q<w3.heap.size/\q≠d/\q≠d+1) w3 w d ts' st' (d+1) us tt'->w.heap[d+2+8]?=w3.heap[d+2+8]?:=fun h=>h.still ⟨hb0,by omega,by omega⟩
  have hcell:∀ (w:World) (st':List DT) (us ts':List T) (tt':List RT),PS (fun q=>q<w3.heap.size/\q≠d/\q≠d+1) w3 w d ts' st' (d+1) us tt'->w.cell? ⟨d+2+8,j*4,none⟩=some (.string starT[j].nm)/\w.cell? ⟨d+2+8,j*4+1,none⟩=some cv/\w.cell? ⟨d+2+8,j*4+2,none⟩=some (.string starT[j].key)/\w.cell? ⟨d+2+8,j*4+3,none⟩=some dv/\RdT w cv dv starT[j]:=fun w st' us ts' tt' h=>by
   have hk:=hK h;rw[Nat.zero_add] at c0 c1 c2 c3;exact⟨(World.cell?_of_block (w:=w3) hk).trans c0,(World.cell?_of_block (w:=w3) hk).trans c1,(World.cell?_of_block (w:=w3) hk).trans c2,(World.cell?_of_block (w:=w3) hk).trans c3,hrt.kp h.kpX⟩
  have hadd:=(fun (h:RdT wr cv dv starT[j])=>hP.addD h (uF j hjs) (aAk j hjs) (bQ j));rw[uE] at hadd;obtain⟨y0,y1,y2,y3,yr⟩:=hcell _ _ _ _ _ hP;have hadd:=hadd yr;have hcols:=aBJ j hjs;have haddN:=(fun (w:World) (st':List DT) (h:PS (fun q=>q<w3.heap.size/\q≠d/\q≠d+1) w3 w d (pre (j+1)) st' (d+1) (pre j) (List.replicate j rt0)) (hr:RdT w cv dv starT[j])=>h.addN (cO j (by omega)) hr (uF j hjs) (aAk j hjs) hcols.1 hcols.2);rw[uE] at haddN;obtain⟨pc,kc,rfl,_,_⟩:=hrt.1.slice;obtain⟨pd,kd,rfl,_,_⟩:=hrt.2.slice;generalize starT[j]=t at *;obtain⟨nc,hnc⟩:∃ n,t.cols.length=n:=⟨_,rfl⟩;obtain⟨nd,hnd⟩:∃ n,t.deps.length=n:=⟨_,rfl⟩;rw[hnc,hnd] at *;have HCell:=qAq hcell;have HAdd:=qAq haddN;have HS:=qAq hS;clear hcell haddN hK hP hS yr c0 c1 c2 c3 hrt hcols;go_upto_region 7 with (go_at_call 34;(with_reducible refine hadd.mono ?_);rintro e w4 ⟨rfl,st',⟨tb,rfl⟩,hP4⟩;have HP4:=qAq hP4;clear hadd hP4);obtain⟨x0,x1,x2,x3,xr⟩:=HCell.out _ _ _ _ _ HP4.out;have haddn:=HAdd.out _ _ HP4.out xr;clear y0 y1 y2 y3 xr;go_wp2_with (go_at_call 35;(with_reducible refine haddn.mono ?_);rintro e w5 ⟨rfl,hP5⟩;have HP5:=qAq hP5;clear haddn hP5);go_roundg (4-j)
  case measure=>omega
  refine⟨j+1,st++[(tb,0,[])],rfl,by omega,by omega,?_,?_⟩
  ·have:=HP5.out
   rw[<- List.replicate_succ'] at this;exact this
  rw[List.map_append,HS.out,List.replicate_succ'];rfl
 obtain rfl:j=4:=(by omega);have HP:=qAq (qBq hP hS);clear hP hS hlt;go_wp2_with fail;go_ret2;have hw:=HB.out.2.1;have hd:=HB.out.2.2.1;have hs:=H3.out.2.1.size;exact⟨rfl,_,w3,st,hd▸aB HB.out.1 H3.out.2.1,fun q hq=>⟨by omega,by omega,by omega⟩,HP.out.1,HP.out.2⟩
abbrev PT:Type:=Nat×List R1
abbrev keyN (y:RT):PT:=(y.nx,y.A)
def insP (t:T) (x:PT) (vals:List T3):PT:=if insE t vals=0 then (x.1+1,x.2++[((x.1:Int),vals)]) else x
def insN (t:T) (x:PT) (vals:List T3):Int:=if insE t vals=0 then (x.1:Int) else 0
def delP (x:PT) (id:Int):PT:=(x.1,without x.2 id)
def setP (t:T) (x:PT) (id:Int) (y:ByteArray) (v:T3):PT:=if setE t x.2 id y v=0 then (x.1,setA x.2 id (ixC t.cols y).toNat v) else x
def SmP (m:Nat) (x:PT):Prop:=x.1<=m/\x.2.length<=x.1
theorem SmP.ins {m:Nat} {x:PT} (h:SmP m x) (t:T) (vals:List T3):SmP (m+1) (insP t x vals):=by
 obtain⟨h1,h2⟩:=h;unfold insP;split
 ·refine⟨by show x.1+1<=m+1;omega,?_⟩;show (x.2++[((x.1:Int),vals)]).length<=x.1+1;rw[List.length_append];have:[((x.1:Int),vals)].length=1:=rfl;omega
 exact⟨by omega,h2⟩
theorem SmP.del {m:Nat} {x:PT} (h:SmP m x) (id:Int):SmP m (delP x id) :=
 ⟨h.1,Nat.le_trans (List.length_filter_le _ _) h.2⟩
theorem SmP.set {m:Nat} {x:PT} (h:SmP m x) (t:T) (id:Int) (y:ByteArray) (v:T3):SmP m (setP t x id y v):=by
 unfold setP;split
 ·exact⟨h.1,by show (setA x.2 id _ v).length<=x.1;rw[mS];exact h.2⟩
 exact h
theorem nQ {A:List R1} {x:Int} (h:∀ a∈A,a.1≠x):without A x=A:=by
 unfold without;rw[List.filter_eq_self];intro a ha;simpa using h a ha
theorem aDF {t:T} {A:List R1} {x:Int} {y:ByteArray} {v:T3} (h:setE t A x y v=0):(∃ a∈A,a.1=x)/\∃ j,∃ hj:j<t.cols.length,ixC t.cols y=(j:Int)/\inC t.cols[j].kd v=true:=by
 unfold setE at h;split at h
 ·rename_i h1;split at h
  ·rename_i h2;split at h
   ·rename_i h3;refine⟨lS.1 h1,?_⟩;rcases gE t.cols y with e|⟨j,hj,e⟩
    ·rw[e] at h2;exact absurd h2 (by decide)
    rw[e,Int.toNat_natCast,List.getElem?_eq_getElem hj] at h3;exact⟨j,hj,e,h3⟩
   exact absurd h (by decide)
  exact absurd h (by decide)
 exact absurd h (by decide)
section
variable {W w w':World} {d b:Nat} {ts us:List T} {st:List DT} {tt:List RT} {O:Nat->Nat} {i:NI} {j m:Nat}
theorem gL {α:Type} {l:List α} {j:Nat} (hj:j<l.length):l.set j l[j]=l:=List.set_getElem_self hj
theorem Dd.insP (h:Dd w d ts st O) (hj:j<ts.length) (hj':j<st.length) {S:Nat->Prop} {v:Value} {vals:List T3} (hv:InV S w v vals) (hS:∀ q,S q->O q=0) (hm:SmP m st[j].2) (hm3:m<=590) (hc:ts[j].cols.length<=1000) (hs:∀ x∈vals,x.2.2.size<=maxLen) (hl:vals.length<=1000000) :
  Calls Tryz.prog 37 #[.pointer (some ⟨st[j].1,0,none⟩),v] w fun e w'=>e=.returned (.tuple #[.int .i64 (insN ts[j] st[j].2 vals),.int .i64 (insE ts[j] vals)])/\∃ O',Dd w' d ts (st.set j (st[j].1,YthlccadnojnkaaaGreat.insP ts[j] st[j].2 vals)) O'/\Ext w O O'/\Tn (fun q=>O q=j+2) w w':=by
 unfold insN YthlccadnojnkaaaGreat.insP;by_cases hyes:insE ts[j] vals=0
 ·rw[if_pos hyes,if_pos hyes,hyes];exact h.turn hj hj' (R:=fun e=>e=.returned (.tuple #[.int .i64 (st[j].2.1:Int),.int .i64 0])) (fun lab hT hlO=>mU hT hv (fun q hq=>Classical.byContradiction fun hn=>by have h1:=hlO q hn;rw[hS q hq] at h1;omega) (by have:=hm.1;omega) hc hs hl hyes)
 rw[if_neg hyes,if_neg hyes];obtain⟨lab,hT,_⟩:=h.tab j hj hj';refine (pI hT hv (by have:=hm.1;omega) hc hs hl hyes).mono ?_;rintro e w' ⟨rfl,hb⟩;refine⟨rfl,O,?_,fun q hq=>rfl,Tn.of_below hb⟩;rw[show ((st[j].1,st[j].2):DT)=st[j] from rfl,gL hj'];exact h.later hb
theorem Dd.delP (h:Dd w d ts st O) (hj:j<ts.length) (hj':j<st.length) {id:Int} (hid:F64 id) (hm:SmP m st[j].2) (hm3:m<=590) (hc:ts[j].cols.length<=1000) :
  Calls Tryz.prog 39 #[.pointer (some ⟨st[j].1,0,none⟩),.int .i64 id] w fun e w'=>e=.returned (.bool (hasId st[j].2.2 id))/\∃ O',Dd w' d ts (st.set j (st[j].1,YthlccadnojnkaaaGreat.delP st[j].2 id)) O'/\Ext w O O'/\Tn (fun q=>O q=j+2) w w':=by
 unfold YthlccadnojnkaaaGreat.delP;cases hh:hasId st[j].2.2 id with
 | true =>
  obtain⟨a,ha,rfl⟩:=kG.1 hh;exact h.turn hj hj' (R:=fun e=>e=.returned (.bool true)) (fun lab hT hlO=>mV hT ha (by have:=hm.1;omega) hc)
 | false =>
  obtain⟨lab,hT,_⟩:=h.tab j hj hj';have hno:=nN.1 hh;refine (aBk hT hid hno).mono ?_;rintro e w' ⟨rfl,rfl⟩;refine⟨rfl,O,?_,fun q hq=>rfl,Tn.refl _ _⟩;rw[nQ hno,show ((st[j].1,(st[j].2.1,st[j].2.2)):DT)=st[j] from rfl,gL hj'];exact h
theorem Dd.setP (h:Dd w d ts st O) (hj:j<ts.length) (hj':j<st.length) {id:Int} (hid:F64 id) (y:ByteArray) (u:T3) (hs:u.2.2.size<=maxLen) (hm:SmP m st[j].2) (hm3:m<=590) :
  Calls Tryz.prog 41 #[.pointer (some ⟨st[j].1,0,none⟩),.int .i64 id,.string y,.agg #[.int .i64 (u.1),.int .i64 (u.2.1),.string (u.2.2)]] w fun e w'=>e=.returned (.int .i64 (setE ts[j] st[j].2.2 id y u))/\∃ O',Dd w' d ts (st.set j (st[j].1,YthlccadnojnkaaaGreat.setP ts[j] st[j].2 id y u)) O'/\Ext w O O'/\Tn (fun q=>O q=j+2) w w':=by
 unfold YthlccadnojnkaaaGreat.setP;by_cases hyes:setE ts[j] st[j].2.2 id y u=0
 ·rw[if_pos hyes,hyes];obtain⟨⟨a,ha,rfl⟩,k,hk,hy,hin⟩:=aDF hyes;rw[hy,Int.toNat_natCast];exact h.turn hj hj' (R:=fun e=>e=.returned (.int .i64 0)) (fun lab hT hlO=>mW hT ha (by have:=hm.1;omega) hk hy u.1 u.2.1 u.2.2 hs hin)
 rw[if_neg hyes];obtain⟨lab,hT,_⟩:=h.tab j hj hj';refine (aBl hT hid y u.1 u.2.1 u.2.2 hs hyes).mono ?_;rintro e w' ⟨rfl,hb⟩;refine⟨rfl,O,?_,fun q hq=>rfl,Tn.of_below hb⟩;rw[show ((st[j].1,st[j].2):DT)=st[j] from rfl,gL hj'];exact h.later hb
theorem DbN.insP (h:DbN w b ts tt i O) (hj:j<ts.length) (hj':j<tt.length) {S:Nat->Prop} {v:Value} {vals:List T3} (hv:InV S w v vals) (hS:∀ q,S q->O q=0) (hm:SmP m (keyN tt[j])) (hm3:m<=590) (hc:ts[j].cols.length<=1000) (h0:0<ts[j].cols.length) (hs:∀ x∈vals,x.2.2.size<=maxLen) (hl:vals.length<=1000000) :
  Calls Tryz.prog 38 #[.pointer (some ⟨b,0,none⟩),.int .i64 (j:Int),v] w fun e w'=>e=.returned (.tuple #[.int .i64 (insN ts[j] (keyN tt[j]) vals),.int .i64 (insE ts[j] vals)])/\∃ tt' O',DbN w' b ts tt' i O'/\tt'.map keyN=(tt.map keyN).set j (YthlccadnojnkaaaGreat.insP ts[j] (keyN tt[j]) vals)/\Ext w O O'/\Tn (fun q=>O q≠0) w w':=by
 unfold insN YthlccadnojnkaaaGreat.insP;obtain⟨m1,m2⟩:=hm;have m1:tt[j].nx<=m:=m1;have m2:tt[j].A.length<=tt[j].nx:=m2;by_cases hyes:insE ts[j] vals=0
 ·rw[if_pos hyes,if_pos hyes,hyes];refine (aCW h hj (List.getElem?_eq_getElem hj') hv hS hs hc h0 hl (by omega) (by omega) hyes).mono ?_;rintro e w' ⟨rfl,x,O',a1,a2,a3,a4,a5⟩;refine⟨rfl,_,O',a1,?_,a4,a5⟩;rw[List.map_set]
  congr 1
  show (x.nx,x.A)=_;rw[a2,a3]
 rw[if_neg hyes,if_neg hyes];refine (aFg h hj (List.getElem?_eq_getElem hj') hv hs hc hl hyes).mono ?_;rintro e w' ⟨rfl,hb⟩;refine⟨rfl,tt,O,h.later hb,?_,fun q hq=>rfl,Tn.of_below hb⟩;rw[show keyN tt[j]=(tt.map keyN)[j]'(by rw[List.length_map];exact hj') by rw[List.getElem_map],gL]
theorem DbN.delP (h:DbN w b ts tt i O) (hj:j<ts.length) (hj':j<tt.length) (id:Int) (hm:SmP m (keyN tt[j])) (hm3:m<=590) :
  Calls Tryz.prog 40 #[.pointer (some ⟨b,0,none⟩),.int .i64 (j:Int),.int .i64 id] w fun e w'=>e=.returned (.bool (hasId tt[j].A id))/\∃ tt' O',DbN w' b ts tt' i O'/\tt'.map keyN=(tt.map keyN).set j (YthlccadnojnkaaaGreat.delP (keyN tt[j]) id)/\Ext w O O'/\Tn (fun q=>O q≠0) w w':=by
 unfold YthlccadnojnkaaaGreat.delP;obtain⟨m1,m2⟩:=hm;have m1:tt[j].nx<=m:=m1;have m2:tt[j].A.length<=tt[j].nx:=m2;cases hh:hasId tt[j].A id with
 | true =>
  obtain⟨a,ha,rfl⟩:=kG.1 hh;obtain⟨k,hk,rfl⟩:=List.getElem_of_mem ha;refine (aCX h hj (List.getElem?_eq_getElem hj') (by omega) hk).mono ?_;rintro e w' ⟨rfl,x,O',a1,a2,a3,a4,a5⟩;refine⟨rfl,_,O',a1,?_,a4,a5⟩;rw[List.map_set]
  congr 1
  show (x.nx,x.A)=_;rw[a2,a3]
 | false =>
  have hno:=nN.1 hh;refine (aFh h hj (List.getElem?_eq_getElem hj') (by omega) hno).mono ?_;rintro e w' ⟨rfl,rfl⟩;refine⟨rfl,tt,O,h,?_,fun q hq=>rfl,Tn.refl _ _⟩;show tt.map keyN=(tt.map keyN).set j (tt[j].nx,without tt[j].A id);rw[nQ hno,show (tt[j].nx,tt[j].A)=(tt.map keyN)[j]'(by rw[List.length_map];exact hj') by rw[List.getElem_map],gL]
theorem DbN.setP (h:DbN w b ts tt i O) (hj:j<ts.length) (hj':j<tt.length) (id:Int) (y:ByteArray) (u:T3) (hs:u.2.2.size<=maxLen) (h0:0<ts[j].cols.length) (hm:SmP m (keyN tt[j])) (hm3:m<=590) :
  Calls Tryz.prog 42 #[.pointer (some ⟨b,0,none⟩),.int .i64 (j:Int),.int .i64 id,.string y,.agg #[.int .i64 (u.1),.int .i64 (u.2.1),.string (u.2.2)]] w fun e w'=>e=.returned (.int .i64 (setE ts[j] tt[j].A id y u))/\∃ tt' O',DbN w' b ts tt' i O'/\tt'.map keyN=(tt.map keyN).set j (YthlccadnojnkaaaGreat.setP ts[j] (keyN tt[j]) id y u)/\Ext w O O'/\Tn (fun q=>O q≠0) w w':=by
 unfold YthlccadnojnkaaaGreat.setP;obtain⟨m1,m2⟩:=hm;have m1:tt[j].nx<=m:=m1;have m2:tt[j].A.length<=tt[j].nx:=m2;refine (aDp h hj (List.getElem?_eq_getElem hj') (by omega) h0 id y u.1 u.2.1 u.2.2 hs).mono ?_;rintro e w' ⟨rfl,x,a1,a2,a3,a4⟩;refine⟨rfl,_,O,a1,?_,fun q hq=>rfl,a4⟩;rw[List.map_set]
 congr 1
 show (x.nx,x.A)=_;rw[a2,a3];show (tt[j].nx,if setE ts[j] tt[j].A id y u=0 then _ else _)=if setE ts[j] tt[j].A id y u=0 then _ else _
 split <;> rfl
end
section
variable {K K':Nat->Prop} {W W0 w w':World} {d b:Nat} {ts us:List T} {st st':List DT} {tt tt':List RT}
theorem PS.turnD2 (h:PS K W0 w d ts st b us tt) {f:FuncId} {args:Array Value} {R:Ending->Prop} {ts':List T} {Q:List DT->Prop}
  (hc:∀ Od,Dd w d ts st Od->(∀ q,K q->Od q=0)->Calls Tryz.prog f args w fun e w'=>R e/\∃ st' O',Q st'/\Dd w' d ts' st' O'/\Ext w Od O'/\Tn (fun q=>Od q≠0) w w') :
  Calls Tryz.prog f args w fun e w'=>R e/\∃ st',Q st'/\PS K W0 w' d ts' st' b us tt:=by
 obtain⟨Od,Ob,i,h1,h2,h3,h4,h5⟩:=h;refine (hc Od h1 (fun q hq=>(h4 q hq).2.1)).mono ?_;rintro e w' ⟨hR,st',O',hQ,hD,hE,hT⟩;have hlt:∀ q,Ob q≠0->q<w.heap.size:=h2.lt;refine⟨hR,st',hQ,O',Ob,i,hD,h2.tn hT (fun q hq=>h3 q hq),fun q hq=>?_,fun q hq=>?_,h5.trans hT (fun _ _ h=>h) (fun q _ hq hK=>hq (h4 q hK).2.1)⟩
 ·refine Classical.byContradiction fun hn=>?_
  have hl:=hlt q hn;rw[hE q hl] at hq;exact hn (h3 q hq)
 obtain⟨k1,k2,k3⟩:=h4 q hq;exact⟨k1,(hE q (Nat.lt_of_lt_of_le k1 h5.size)).trans k2,k3⟩
theorem PS.turnN2 (h:PS K W0 w d ts st b us tt) {f:FuncId} {args:Array Value} {R:Ending->Prop} {us':List T} {Q:List RT->Prop}
  (hc:∀ i Ob,DbN w b us tt i Ob->(∀ q,K q->Ob q=0)->Calls Tryz.prog f args w fun e w'=>R e/\∃ tt' i' O',Q tt'/\DbN w' b us' tt' i' O'/\Ext w Ob O'/\Tn (fun q=>Ob q≠0) w w') :
  Calls Tryz.prog f args w fun e w'=>R e/\∃ tt',Q tt'/\PS K W0 w' d ts st b us' tt':=by
 obtain⟨Od,Ob,i,h1,h2,h3,h4,h5⟩:=h;refine (hc i Ob h2 (fun q hq=>(h4 q hq).2.2)).mono ?_;rintro e w' ⟨hR,tt',i',O',hQ,hD,hE,hT⟩;refine⟨hR,tt',hQ,Od,O',i',h1.tn hT (fun q hq=>Classical.byContradiction fun hn=>hq (h3 q hn)),hD,fun q hq=>?_,fun q hq=>?_,h5.trans hT (fun _ _ h=>h) (fun q _ hq hK=>hq (h4 q hK).2.2)⟩
 ·rw[hE q (h1.lt q hq)];exact h3 q hq
 obtain⟨k1,k2,k3⟩:=h4 q hq;exact⟨k1,k2,(hE q (Nat.lt_of_lt_of_le k1 h5.size)).trans k3⟩
theorem PS.with (h:PS K W0 w d ts st b us tt) (hb:Below w.heap.size w w'):PS (fun q=>K q∨(w.heap.size<=q/\q<w'.heap.size)) w' w' d ts st b us tt:=by
 obtain⟨Od,Ob,i,h1,h2,h3,h4,h5⟩:=h;refine⟨Od,Ob,i,h1.later hb,h2.later hb,h3,fun q hq=>?_,Tn.refl _ _⟩;rcases hq with hq|⟨q1,q2⟩
 ·obtain⟨k1,k2,k3⟩:=h4 q hq;exact⟨Nat.lt_of_lt_of_le (Nat.lt_of_lt_of_le k1 h5.size) hb.size,k2,k3⟩
 exact⟨q2,Classical.byContradiction fun hn=>by have:=h1.lt q hn;omega,Classical.byContradiction fun hn=>by have:=h2.lt q hn;omega⟩
theorem PS.back (h:PS K W0 w d ts st b us tt) {ts' us':List T} (h2:PS K' w w' d ts' st' b us' tt') (hk:∀ q,K q->K' q):PS K W0 w' d ts' st' b us' tt':=by
 obtain⟨_,_,_,_,_,_,h4,h5⟩:=h;obtain⟨Od,Ob,i,a1,a2,a3,a4,a5⟩:=h2;exact⟨Od,Ob,i,a1,a2,a3,fun q hq=>⟨(h4 q hq).1,(a4 q (hk q hq)).2⟩,h5.trans a5 (fun _ _ h=>h) (fun q _ hn hq=>hn (hk q hq))⟩
theorem PS.bel (h:PS K W0 w d ts st b us tt) (hb:Below W.heap.size W W0) (hk:∀ q,q<W.heap.size->K q):Below W.heap.size W w:=by
 obtain⟨_,_,_,_,_,_,_,h5⟩:=h;exact hb.trans (h5.chg.below hb.size (fun q hq hn=>Classical.byContradiction fun hlt=>hn (hk q (by omega))))
theorem PS.lenD (h:PS K W0 w d ts st b us tt):st.length=ts.length:=by obtain⟨_,_,_,h1,_⟩:=h;exact h1.len
theorem PS.lenN (h:PS K W0 w d ts st b us tt):tt.length=us.length:=by obtain⟨_,_,_,_,h2,_⟩:=h;exact h2.n
end
def PD (K:Nat->Prop) (W0 w:World) (d b:Nat) (ts:List T) (ps:List Nat) (L1 L2:List PT):Prop:=∃ st tt,PS K W0 w d ts st b ts tt/\st.map (·.1)=ps/\st.map (·.2)=L1/\tt.map keyN=L2
section
variable {K K':Nat->Prop} {W W0 w w':World} {d b:Nat} {ts:List T} {ps:List Nat} {L1 L2:List PT} {j m:Nat}
theorem PD.len (h:PD K W0 w d b ts ps L1 L2):ps.length=ts.length/\L1.length=ts.length/\L2.length=ts.length:=by
 obtain⟨st,tt,h1,rfl,rfl,rfl⟩:=h;exact⟨by rw[List.length_map];exact h1.lenD,by rw[List.length_map];exact h1.lenD,by rw[List.length_map];exact h1.lenN⟩
theorem PD.later (h:PD K W0 w d b ts ps L1 L2) (hb:Below w.heap.size w w'):PD K W0 w' d b ts ps L1 L2:=by
 obtain⟨st,tt,h1,h2⟩:=h;exact⟨st,tt,h1.later hb,h2⟩
theorem PD.with (h:PD K W0 w d b ts ps L1 L2) (hb:Below w.heap.size w w'):PD (fun q=>K q∨(w.heap.size<=q/\q<w'.heap.size)) w' w' d b ts ps L1 L2:=by
 obtain⟨st,tt,h1,h2⟩:=h;exact⟨st,tt,h1.with hb,h2⟩
theorem PD.back (h:PD K W0 w d b ts ps L1 L2) {L3 L4:List PT} (h2:PD K' w w' d b ts ps L3 L4) (hk:∀ q,K q->K' q):PD K W0 w' d b ts ps L3 L4:=by
 obtain⟨st,tt,h1,_⟩:=h;obtain⟨st',tt',a1,a2⟩:=h2;exact⟨st',tt',h1.back a1 hk,a2⟩
theorem PD.bel (h:PD K W0 w d b ts ps L1 L2) (hb:Below W.heap.size W W0) (hk:∀ q,q<W.heap.size->K q):Below W.heap.size W w:=by
 obtain⟨st,tt,h1,_⟩:=h;exact h1.bel hb hk
theorem PD.still (h:PD K W0 w d b ts ps L1 L2) {q:Nat} (hq:K q):w.heap[q]?=W0.heap[q]?:=by
 obtain⟨st,tt,h1,_⟩:=h;exact h1.still hq
theorem PD.dd (h:PD K W0 w d b ts ps L1 L2):∃ st O,Dd w d ts st O/\st.map (·.1)=ps/\st.map (·.2)=L1:=by
 obtain⟨st,tt,⟨Od,_,_,h1,_⟩,h2,h3,_⟩:=h;exact⟨st,Od,h1,h2,h3⟩
theorem PD.dbn (h:PD K W0 w d b ts ps L1 L2):∃ tt i O,DbN w b ts tt i O/\tt.map keyN=L2:=by
 obtain⟨st,tt,⟨_,Ob,i,_,h1,_⟩,_,_,h3⟩:=h;exact⟨tt,i,Ob,h1,h3⟩
theorem PD.table (h:PD K W0 w d b ts ps L1 L2) (hj:j<ts.length) (hx:ts[j].nm.size<=maxLen) (hp:j<ps.length):Calls Tryz.prog 29 #[.pointer (some ⟨d,0,none⟩),.string ts[j].nm] w fun e w'=>e=.returned (Value.pointer (some ⟨ps[j],0,none⟩))/\w'=w:=by
 obtain⟨st,O,h1,rfl,_⟩:=h.dd;rw[List.getElem_map];exact h1.table hj hx (by rw[h1.len];exact hj)
theorem kI {st:List DT} (hj:j<st.length) (x:PT):((st.set j (st[j].1,x)).map (·.1)=st.map (·.1))/\((st.set j (st[j].1,x)).map (·.2)=(st.map (·.2)).set j x):=by
 rw[List.map_set,List.map_set];refine⟨?_,rfl⟩;have:(st.map (·.1))[j]'(by rw[List.length_map];exact hj)=st[j].1:=(by rw[List.getElem_map]);rw[<- this];exact gL _
theorem PD.insD (h:PD K W0 w d b ts ps L1 L2) (hj:j<ts.length) (hp:j<ps.length) (hL:j<L1.length) {S:Nat->Prop} {v:Value} {vals:List T3} (hv:InV S w v vals) (hS:∀ q,S q->K q) (hm:SmP m L1[j]) (hm3:m<=590) (hc:ts[j].cols.length<=1000) (hs:∀ x∈vals,x.2.2.size<=maxLen) (hl:vals.length<=1000000) :
  Calls Tryz.prog 37 #[.pointer (some ⟨ps[j],0,none⟩),v] w fun e w'=>e=.returned (.tuple #[.int .i64 (insN ts[j] L1[j] vals),.int .i64 (insE ts[j] vals)])/\PD K W0 w' d b ts ps (L1.set j (insP ts[j] L1[j] vals)) L2:=by
 obtain⟨st,tt,h1,rfl,rfl,rfl⟩:=h;have hj':j<st.length:=(by rw[h1.lenD];exact hj);simp only[List.getElem_map] at hm ⊢;refine (h1.turnD2 (ts':=ts) (R:=fun e=>e=.returned (.tuple #[.int .i64 (insN ts[j] st[j].2 vals),.int .i64 (insE ts[j] vals)])) (Q:=fun st'=>st'=st.set j (st[j].1,insP ts[j] st[j].2 vals)) (fun Od hD hK=>?_)).mono ?_
 ·refine (hD.insP hj hj' hv (fun q hq=>hK q (hS q hq)) hm hm3 hc hs hl).mono ?_;rintro e w' ⟨rfl,O',a1,a2,a3⟩;exact⟨rfl,_,O',rfl,a1,a2,a3.mono (fun q _ hq=>by have hq:Od q=j+2:=hq;show Od q≠0;omega)⟩
 rintro e w' ⟨rfl,st',rfl,hP⟩;obtain⟨e1,e2⟩:=kI hj' (insP ts[j] st[j].2 vals);exact⟨rfl,_,tt,hP,e1,e2,rfl⟩
theorem PD.delD (h:PD K W0 w d b ts ps L1 L2) (hj:j<ts.length) (hp:j<ps.length) (hL:j<L1.length) {id:Int} (hid:F64 id) (hm:SmP m L1[j]) (hm3:m<=590) (hc:ts[j].cols.length<=1000) :
  Calls Tryz.prog 39 #[.pointer (some ⟨ps[j],0,none⟩),.int .i64 id] w fun e w'=>e=.returned (.bool (hasId L1[j].2 id))/\PD K W0 w' d b ts ps (L1.set j (delP L1[j] id)) L2:=by
 obtain⟨st,tt,h1,rfl,rfl,rfl⟩:=h;have hj':j<st.length:=(by rw[h1.lenD];exact hj);simp only[List.getElem_map] at hm ⊢;refine (h1.turnD2 (ts':=ts) (R:=fun e=>e=.returned (.bool (hasId st[j].2.2 id))) (Q:=fun st'=>st'=st.set j (st[j].1,delP st[j].2 id)) (fun Od hD hK=>?_)).mono ?_
 ·refine (hD.delP hj hj' hid hm hm3 hc).mono ?_;rintro e w' ⟨rfl,O',a1,a2,a3⟩;exact⟨rfl,_,O',rfl,a1,a2,a3.mono (fun q _ hq=>by have hq:Od q=j+2:=hq;show Od q≠0;omega)⟩
 rintro e w' ⟨rfl,st',rfl,hP⟩;obtain⟨e1,e2⟩:=kI hj' (delP st[j].2 id);exact⟨rfl,_,tt,hP,e1,e2,rfl⟩
theorem PD.setD (h:PD K W0 w d b ts ps L1 L2) (hj:j<ts.length) (hp:j<ps.length) (hL:j<L1.length) {id:Int} (hid:F64 id) (y:ByteArray) (u:T3) (hs:u.2.2.size<=maxLen) (hm:SmP m L1[j]) (hm3:m<=590) :
  Calls Tryz.prog 41 #[.pointer (some ⟨ps[j],0,none⟩),.int .i64 id,.string y,.agg #[.int .i64 (u.1),.int .i64 (u.2.1),.string (u.2.2)]] w fun e w'=>e=.returned (.int .i64 (setE ts[j] L1[j].2 id y u))/\PD K W0 w' d b ts ps (L1.set j (setP ts[j] L1[j] id y u)) L2:=by
 obtain⟨st,tt,h1,rfl,rfl,rfl⟩:=h;have hj':j<st.length:=(by rw[h1.lenD];exact hj);simp only[List.getElem_map] at hm ⊢;refine (h1.turnD2 (ts':=ts) (R:=fun e=>e=.returned (.int .i64 (setE ts[j] st[j].2.2 id y u))) (Q:=fun st'=>st'=st.set j (st[j].1,setP ts[j] st[j].2 id y u)) (fun Od hD hK=>?_)).mono ?_
 ·refine (hD.setP hj hj' hid y u hs hm hm3).mono ?_;rintro e w' ⟨rfl,O',a1,a2,a3⟩;exact⟨rfl,_,O',rfl,a1,a2,a3.mono (fun q _ hq=>by have hq:Od q=j+2:=hq;show Od q≠0;omega)⟩
 rintro e w' ⟨rfl,st',rfl,hP⟩;obtain⟨e1,e2⟩:=kI hj' (setP ts[j] st[j].2 id y u);exact⟨rfl,_,tt,hP,e1,e2,rfl⟩
theorem PD.insN (h:PD K W0 w d b ts ps L1 L2) (hj:j<ts.length) (hL:j<L2.length) {S:Nat->Prop} {v:Value} {vals:List T3} (hv:InV S w v vals) (hS:∀ q,S q->K q) (hm:SmP m L2[j]) (hm3:m<=590) (hc:ts[j].cols.length<=1000) (h0:0<ts[j].cols.length) (hs:∀ x∈vals,x.2.2.size<=maxLen) (hl:vals.length<=1000000) :
  Calls Tryz.prog 38 #[.pointer (some ⟨b,0,none⟩),.int .i64 (j:Int),v] w fun e w'=>e=.returned (.tuple #[.int .i64 (YthlccadnojnkaaaGreat.insN ts[j] L2[j] vals),.int .i64 (insE ts[j] vals)])/\PD K W0 w' d b ts ps L1 (L2.set j (insP ts[j] L2[j] vals)):=by
 obtain⟨st,tt,h1,rfl,rfl,rfl⟩:=h;have hj':j<tt.length:=(by rw[h1.lenN];exact hj);simp only[List.getElem_map] at hm ⊢;refine (h1.turnN2 (us':=ts) (R:=fun e=>e=.returned (.tuple #[.int .i64 (YthlccadnojnkaaaGreat.insN ts[j] (keyN tt[j]) vals),.int .i64 (insE ts[j] vals)])) (Q:=fun tt'=>tt'.map keyN=(tt.map keyN).set j (insP ts[j] (keyN tt[j]) vals)) (fun i Ob hD hK=>?_)).mono ?_
 ·refine (hD.insP hj hj' hv (fun q hq=>hK q (hS q hq)) hm hm3 hc h0 hs hl).mono ?_;rintro e w' ⟨rfl,tt',O',a1,a2,a3,a4⟩;exact⟨rfl,tt',i,O',a2,a1,a3,a4⟩
 rintro e w' ⟨rfl,tt',hQ,hP⟩;exact⟨rfl,st,tt',hP,rfl,rfl,hQ⟩
theorem PD.delN (h:PD K W0 w d b ts ps L1 L2) (hj:j<ts.length) (hL:j<L2.length) (id:Int) (hm:SmP m L2[j]) (hm3:m<=590) :
  Calls Tryz.prog 40 #[.pointer (some ⟨b,0,none⟩),.int .i64 (j:Int),.int .i64 id] w fun e w'=>e=.returned (.bool (hasId L2[j].2 id))/\PD K W0 w' d b ts ps L1 (L2.set j (delP L2[j] id)):=by
 obtain⟨st,tt,h1,rfl,rfl,rfl⟩:=h;have hj':j<tt.length:=(by rw[h1.lenN];exact hj);simp only[List.getElem_map] at hm ⊢;refine (h1.turnN2 (us':=ts) (R:=fun e=>e=.returned (.bool (hasId (keyN tt[j]).2 id))) (Q:=fun tt'=>tt'.map keyN=(tt.map keyN).set j (delP (keyN tt[j]) id)) (fun i Ob hD hK=>?_)).mono ?_
 ·refine (hD.delP hj hj' id hm hm3).mono ?_;rintro e w' ⟨rfl,tt',O',a1,a2,a3,a4⟩;exact⟨rfl,tt',i,O',a2,a1,a3,a4⟩
 rintro e w' ⟨rfl,tt',hQ,hP⟩;exact⟨rfl,st,tt',hP,rfl,rfl,hQ⟩
theorem PD.setN (h:PD K W0 w d b ts ps L1 L2) (hj:j<ts.length) (hL:j<L2.length) (id:Int) (y:ByteArray) (u:T3) (hs:u.2.2.size<=maxLen) (h0:0<ts[j].cols.length) (hm:SmP m L2[j]) (hm3:m<=590) :
  Calls Tryz.prog 42 #[.pointer (some ⟨b,0,none⟩),.int .i64 (j:Int),.int .i64 id,.string y,.agg #[.int .i64 (u.1),.int .i64 (u.2.1),.string (u.2.2)]] w fun e w'=>e=.returned (.int .i64 (setE ts[j] L2[j].2 id y u))/\PD K W0 w' d b ts ps L1 (L2.set j (setP ts[j] L2[j] id y u)):=by
 obtain⟨st,tt,h1,rfl,rfl,rfl⟩:=h;have hj':j<tt.length:=(by rw[h1.lenN];exact hj);simp only[List.getElem_map] at hm ⊢;refine (h1.turnN2 (us':=ts) (R:=fun e=>e=.returned (.int .i64 (setE ts[j] (keyN tt[j]).2 id y u))) (Q:=fun tt'=>tt'.map keyN=(tt.map keyN).set j (setP ts[j] (keyN tt[j]) id y u)) (fun i Ob hD hK=>?_)).mono ?_
 ·refine (hD.setP hj hj' id y u hs h0 hm hm3).mono ?_;rintro e w' ⟨rfl,tt',O',a1,a2,a3,a4⟩;exact⟨rfl,tt',i,O',a2,a1,a3,a4⟩
 rintro e w' ⟨rfl,tt',hQ,hP⟩;exact⟨rfl,st,tt',hP,rfl,rfl,hQ⟩
end
theorem cP (W:World):Calls Tryz.prog 13 #[] W fun e w'=>∃ d b ps,e=.returned (.tuple #[(Value.pointer (some ⟨d,0,none⟩)),(Value.pointer (some ⟨b,0,none⟩))])/\PD (fun q=>q<W.heap.size) W w' d b (pre 4) ps (List.replicate 4 (0,[])) (List.replicate 4 (0,[])):=by
 refine (xW W).mono ?_;rintro e w' ⟨rfl,K,w3,st,hb,hK,⟨Od,Ob,i,h1,h2,h3,h4,h5⟩,hst⟩;refine⟨_,_,st.map (·.1),rfl,st,List.replicate 4 rt0,⟨Od,Ob,i,h1,h2,h3,fun q hq=>⟨hq,(h4 q (hK q hq)).2⟩,(Tn.of_below (S:=fun _=>False) hb).trans h5 (fun _ _ h=>h.elim) (fun q _ hn hq=>hn (hK q hq))⟩,rfl,hst,rfl⟩
