import Derived.Test.YtgbkmjnnlkgpnaaGreatZe16
import Derived.TacticsInMore
import Derived.LoopNIn
import Derived.LoopIn
import Derived.RangeFuncBox
import Derived.Shelf.RegionOpen
import Derived.Test.YtgbkmjnnlkgpnaaGreatZe12
import Derived.RangeFuncLeaves
import Derived.ControlIn
set_option maxHeartbeats 2000000
set_option maxRecDepth 100000
namespace Go.Proofs.YtgbkmjnnlkgpnaaGreat
open Go Go.RowKit Go.Shelf Go.Proofs
section
variable {P:Program} {w:World}
theorem fR (f:Nat):Fence.wide.fn f:=trivial
theorem cX:Fence.wide.depth=none:=rfl
end
attribute [local go_sem] Oper.semAt_some
attribute [local go_sem] jC jD fR cX
def enc1 (x:Int):Array Value:=#[(Value.int .i64 (x))]
structure Came (J:Nat->(Nat->Prop)->World->Prop) (S:Nat->Prop) (W:World) (k:Nat) (S1:Nat->Prop) (W1:World):Prop where
 j:J k S1 W1
 inW:InW S1 W1
 grows:Grows S S1 W
 chg:Chg S W W1
theorem Came.next {J:Nat->(Nat->Prop)->World->Prop} {S S1 S2:Nat->Prop} {W W1 W2:World} {k:Nat} (h:Came J S W k S1 W1) {J':Nat->(Nat->Prop)->World->Prop} {k':Nat}
  (hg:Grows S1 S2 W1) (hi:InW S2 W2) (hc:Chg S1 W1 W2) (hj:J' k' S2 W2):Came J' S W k' S2 W2 :=
 ⟨hj,hi,h.grows.trans hg h.chg.size,h.chg.trans hc (fun _ _ x=>x) (fun b hb x=>(h.grows b x).resolve_right (by omega))⟩
theorem Came.alloc {J:Nat->(Nat->Prop)->World->Prop} {S S1:Nat->Prop} {W W1:World} {k:Nat} (h:Came J S W k S1 W1) (hJ:Loc (J k)) (o:Obj):Came J S W k S1 (W1.alloc o)/\¬ S1 W1.heap.size :=
 ⟨⟨hJ S1 W1 _ h.j h.inW (by simp) (fun b hb=>Below.heap_alloc _ _ _ (h.inW b hb)),h.inW.later (by simp),h.grows,h.chg.alloc o⟩,fun hb=>Nat.lt_irrefl _ (h.inW _ hb)⟩
theorem aCK {la:List R2} {j:Nat} (hj:j<la.length) {d:Nat} (hd:(d:Int)<la[j].2-la[j].1):(els la)[(els (la.take j)).length+d]?=some (la[j].1+(d:Int)):=by
 have e1:els la=els (la.take j)++(rng la[j].1 la[j].2++els (la.drop (j+1))):=by
  have hc:=aCz la j hj;rw[<- nO,<- fG,<- fG,<- hc]
 rw[e1,List.getElem?_append_right (by omega),List.getElem?_append_left (by rw[jG];omega),Nat.add_sub_cancel_left,aEJ (by omega)]
theorem mD (c:Nat) {la:List R2} {pa:Option Addr} {ca:Nat} (ha:Nrm la) (yv:Value) (J Jx:Nat->(Nat->Prop)->World->Prop) (S:Nat->Prop) (W:World) (hJ:∀ k,Loc (J k)) (hS:InW S W)
  (hc:W.cell? ⟨c,0,none⟩=some (.slice pa la.length ca)) (hv:Mv W (.slice pa la.length ca) la) (hbS:∀ g,pa=some ⟨g,0,none⟩->¬ S g) (h0:J 0 S W)
  (hY:∀ k (hk:k<(els la).length) S1 W1,InW S1 W1->Chg (fun b=>S b∨False) W W1->J k S1 W1 ->
   CallsV Tryz.prog yv (enc1 (els la)[k]) W1 fun e W2=>∃ S2,Grows S1 S2 W1/\InW S2 W2/\Chg S1 W1 W2 /\
    ((e=.returned (.bool true)/\J (k+1) S2 W2)∨(e=.returned (.bool false)/\Jx (k+1) S2 W2))) :
  Calls Tryz.prog 112 #[yv,.pointer (some ⟨c,0,none⟩)] W fun e W'=>∃ v,e=.returned v/\((∃ S',Came J S W (els la).length S' W')∨∃ k S',0<k/\k<=(els la).length/\Came Jx S W k S' W'):=by
 obtain⟨na,hna⟩:∃ na,la.length=na:=⟨_,rfl⟩;have HV:=qAq (qBq hv (qBq hna (qBq ha hbS)));have HY:=qAq hY;have hla:=eI ha;have HJ:=qAq hJ;rw[hna] at hc hla;clear hv ha hbS hna hY hJ;refine (callsIn_wide (n:=0)).1 ?_;refine callsIn_of_wp Tryz.func112 rfl trivial ?_ rfl;simp only[Tryz.ntmps112,List.size_toArray,List.length_cons,List.length_nil,Nat.reduceAdd,Nat.reduceSub,Array.replicate_succ,Array.replicate_zero,List.push_toArray,List.append_toArray,List.nil_append,List.cons_append]
 gi_wp2
 gi_loopw [9] (fun iv wr=>∃ (j:Nat) (S1:Nat->Prop),j<=na/\iv=.int .i64 (j:Int)/\Came J S W (els (la.take j)).length S1 wr) (fun iv _=>na-(intOf iv).toNat)
 case atStart=>exact⟨0,S,Nat.zero_le _,rfl,⟨h0,hS,.refl _ _,.refl _ _⟩⟩
 obtain⟨j,S1,hj,rfl,hC⟩:=hrel;by_cases hlt:j<na
 ·have hja:j<la.length:=(by rw[HV.out.2.1];exact hlt);obtain⟨g,rfl,hg,a0,a1,a2⟩:=HV.out.1.run hja;have hgS:=HV.out.2.2.2 g rfl;have a0:=(hC.chg.cell (p:=⟨g,j*3,none⟩) hg hgS).trans a0;have a1:=(hC.chg.cell (p:=⟨g,j*3+1,none⟩) hg hgS).trans a1;have a2:=(hC.chg.cell (p:=⟨g,j*3+2,none⟩) hg hgS).trans a2;have hat:∀ d:Nat,(d:Int)<la[j].2-la[j].1->(els la)[(els (la.take j)).length+d]?=some (la[j].1+(d:Int)):=(fun d hd=>aCK hja hd);have hrb:=HV.out.2.2.1.2 la[j] (List.getElem_mem _);have hnext:(els (la.take (j+1))).length=(els (la.take j)).length+(la[j].2-la[j].1).toNat:=(by rw[List.take_succ_eq_append_getElem hja,fG,nO,List.length_append,jG]);obtain⟨r,hr⟩:∃ r,la[j]=r:=⟨_,rfl⟩;simp only[hr] at a0 a1 hat hrb hnext;obtain⟨f,t⟩:=r;obtain⟨cj,hcj⟩:∃ cj,(els (la.take j)).length=cj:=⟨_,rfl⟩;simp only[hcj] at a2 hC hnext hat;have HA:=qAq (qBq hat hnext);obtain⟨hC1,hn1⟩:=hC.alloc (HJ.out cj) (.cells #[(Value.int .i64 (f)),(Value.int .i64 (t)),(Value.int .i64 ((cj:Int)))] 160);have hf0:0<=f:=hrb.1;have hft:f<t:=hrb.2.1;have ht6:t<=65536:=hrb.2.2;have hbx:=qOq wr (.cells #[(Value.int .i64 (f)),(Value.int .i64 (t)),(Value.int .i64 ((cj:Int)))] 160);obtain⟨rb,hrb'⟩:∃ rb,wr.heap.size=rb:=⟨_,rfl⟩;have HC:=qAq (qBq hC1 (qBq hn1 hbx));rw[hrb'] at HC;clear hcj hr hat hnext hrb hC1 hn1 hbx hC hc
  gi_wp2
  gi_loopw [5] (fun iv w=>∃ (d:Nat) (S2:Nat->Prop),(d:Int)<=t-f/\iv=.int .i64 (f+(d:Int))/\Came J S W (cj+d) S2 w/\¬ S2 rb/\w.heap[rb]?=some (.cells #[(Value.int .i64 (f)),(Value.int .i64 (t)),(Value.int .i64 ((cj:Int)))] 160)) (fun iv _=>(t-intOf iv).toNat)
  case atStart=>exact⟨0,S1,by omega,by simp,HC.out.1,HC.out.2.1,HC.out.2.2⟩
  clear a0 a1 a2;obtain⟨d,S2,hd,rfl,hC,hn,hx⟩:=hrel;have x1:=aA hx 1;have hrl:=lt_of_heap hx;have HX:=qAq (qBq hC (qBq hn hx));clear hC hn hx;by_cases hdl:(d:Int)<t-f
  ·obtain⟨hkl,hke⟩:=List.getElem?_eq_some_iff.1 (HA.out.1 d hdl);have hY1:=HY.out (cj+d) hkl S2 wr HX.out.1.inW (HX.out.1.chg.mono fun _ _ x=>.inl x) HX.out.1.j;rw[hke] at hY1;have hlt':f+(d:Int)<t:=(by omega);clear hkl hke
   gi_wp2_with ((with_reducible refine iE ?_ ?_ yv [(Value.int .i64 (f+(d:Int)))] ?_ ?_ ?_);rfl;rfl;rfl;rfl;refine hY1.mono ?_;clear hY1;rintro e W2 ⟨S3,hg3,hi3,hch3,(⟨rfl,hj3⟩ | ⟨rfl,hj3⟩)⟩ <;> refine⟨_,rfl,?_⟩)
   ·go_roundw
    case rel=>exact⟨d+1,S3,by omega,by congr 1 <;> omega,HX.out.1.next hg3 hi3 hch3 hj3,fun h=>(hg3 rb h).elim HX.out.2.1 (fun h=>by omega),(hch3.block rb hrl HX.out.2.1).trans HX.out.2.2⟩
    simp[intOf];omega
   refine bodyPost_ret (results_none rfl _ _ _) rfl ?_
   exact⟨_,rfl,.inr ⟨cj+d+1,S3,by omega,by
    have:=(List.getElem?_eq_some_iff.1 (HA.out.1 d hdl)).1
    omega,HX.out.1.next hg3 hi3 hch3 hj3⟩⟩
  have hlt':¬ f+(d:Int)<t:=by omega
  gi_wp2
  go_roundw
  case rel=>exact⟨j+1,S2,by omega,by simp,by
   rw[HA.out.2];have e:(t-f).toNat=d:=(by omega);show Came J S W (cj+(t-f).toNat) S2 wr;rw[e];exact HX.out.1⟩
  simp[intOf];omega
 have e:els (la.take j)=els la:=(by rw[List.take_of_length_le (by rw[HV.out.2.1];omega)]);rw[e] at hC;have HC:=qAq hC;clear hC e hc
 gi_wp2
 go_end0
 exact⟨_,rfl,.inl ⟨S1,HC.out⟩⟩
theorem all_gives (c:Nat) {la:List R2} {va:Value} (ha:Nrm la) (W0:World) (hv0:Mv W0 va la):Gives Tryz.prog (.func (.func 112) #[] #[(Value.pointer (some ⟨c,0,none⟩))]) enc1 (els la) (fun b=>b=c∨va.ownBlock=some b) (fun _=>False) (fun _ W=>Cell W c va/\Mv W va la):=by
 obtain⟨pa,ca,rfl,_,_⟩:=hv0.slice;refine⟨fun k W W' ⟨h1,h2⟩ _ _ hb=>⟨h1.of (hb c (.inl rfl)),HRow.of h2 (fun b h=>hb b (.inr h))⟩,⟨112,_,rfl⟩,fun _ x=>x.elim,?_⟩;rintro yf yb J Jx S W hJ hJx hS hM hSM ⟨hc,hq⟩ h0 hY;refine .inl ⟨112,_,rfl,enters_of Tryz.func112 (by kernel_rfl) rfl,?_⟩;have hw:=mD c (pa:=pa) (ca:=ca) ha (.func yf #[] yb) J Jx S W hJ hS hc.1 hq (fun g hg hs=>hSM g hs (.inr (by subst hg;rfl))) h0 hY;refine hw.mono ?_
 have hq':∀ W',Chg S W W'->Cell W' c (.slice pa la.length ca)/\Mv W' (.slice pa la.length ca) la:=fun W' h =>
  ⟨hc.of (h.block c (hM c (.inl rfl)) (fun x=>hSM c x (.inl rfl))),HRow.of hq (fun b hb=>h.block b (hM b (.inr hb)) (fun x=>hSM b x (.inr hb)))⟩
 rintro e W' ⟨v,rfl,(⟨S',h⟩ | ⟨k,S',hk0,hk,h⟩)⟩
 ·exact⟨v,S',rfl,h.grows,h.inW,h.chg.mono (fun _ _ x=>.inl x),.inl ⟨h.j,hq' _ h.chg⟩⟩
 exact⟨v,S',rfl,h.grows,h.inW,h.chg.mono (fun _ _ x=>.inl x),.inr ⟨k,hk0,hk,h.j,hq' _ h.chg⟩⟩
theorem jH {va:Value} {la:List R2} {W:World} (hv:Mv W va la):Calls Tryz.prog 81 #[.agg #[va]] W fun e w'=>e=.returned (.func (.func 112) #[] #[(Value.pointer (some ⟨W.heap.size,0,none⟩))])/\w'=W.alloc (.cells #[va] 113):=by
 obtain⟨pa,ca,rfl,_,_⟩:=hv.slice;clear hv;go_enter Tryz.func81,Tryz.ntmps81
 go_wp2
 go_ret;exact⟨rfl,rfl⟩
def Bm (w:World) (b:Nat) (v:Value) (P:Int->Bool):Prop:=∃ l,w.heap[b]?=some (.cells #[v] 113)/\Mv w v l/\Nrm l/\Is l P
def Vm (w:World) (v:Value) (P:Int->Bool):Prop:=∃ l,Mv w v l/\Nrm l/\Is l P
theorem Vm.later {w w':World} {v:Value} {P:Int->Bool} (h:Vm w v P) (hb:Below w.heap.size w w'):Vm w' v P:=by
 obtain⟨l,h2,h3,h4⟩:=h;exact⟨l,h2.later hb,h3,h4⟩
theorem Vm.slc {w:World} {v:Value} {P:Int->Bool} (h:Vm w v P):∃ p n c,v=.slice p n c:=by
 obtain⟨l,h,_⟩:=h;obtain⟨p,c,e,_⟩:=h.slice;exact⟨p,_,c,e⟩
def IsV (P:Int->Bool) (W:World) (e:Ending) (w':World):Prop:=∃ p n c,e=.returned (.agg #[.slice p n c])/\Vm w' (.slice p n c) P/\Below W.heap.size W w'
theorem IsMap.v {P:Int->Bool} {W:World} {e:Ending} {w':World} (h:IsMap P W e w'):IsV P W e w':=by
 obtain⟨v,l,he,hm,hn,hi,hb⟩:=h;obtain⟨p,c,e2,_⟩:=hm.slice;subst e2;exact⟨p,_,c,he,⟨l,hm,hn,hi⟩,hb⟩
section
variable {W:World} {va vb:Value} {P Q:Int->Bool}
theorem vor (ha:Vm W va P) (hb:Vm W vb Q):Calls Tryz.prog 100 #[.agg #[va],.agg #[vb]] W (IsV (fun x=>P x || Q x) W):=by
 obtain⟨la,h1,h2,h3⟩:=ha;obtain⟨lb,k1,k2,k3⟩:=hb;exact (aGl h2 k2 h1 k1 h3 k3).mono fun _ _ h=>h.v
theorem aHG (ha:Vm W va P) (n:Int):Calls Tryz.prog 105 #[.agg #[va],.int .i64 (n)] W (IsV (notP P n) W):=by
 obtain⟨la,h1,h2,h3⟩:=ha;exact (not_any h2 h1 h3 n).mono fun _ _ h=>h.v
theorem vof {p:Option Addr} {xs:List Int} {n c:Nat} (hn:xs.length=n) (hl:n<=100000) (hr:Rd W p xs):Calls Tryz.prog 101 #[.slice p n c] W (IsV (ofP xs) W):=(aGn hn hl hr).mono fun _ _ h=>h.v
theorem aCL (ha:Vm W va P):Calls Tryz.prog 73 #[.agg #[va]] W fun e w'=>e=.returned (.int .i64 (((elems P).length:Int)))/\Below W.heap.size W w':=by
 obtain⟨la,h1,h2,h3⟩:=ha;rw[<- h3.els h2];exact count_any h2 h1
end
end Go.Proofs.YtgbkmjnnlkgpnaaGreat
namespace Go.Proofs.YtgbkmjnnlkgpnaaGreat.Kc
open Go Go.RowKit Go.Shelf Go.Proofs
def Loc (J:(Nat->Prop)->World->Prop):Prop:=∀ S W W',J S W->InW S W->W.heap.size<=W'.heap.size->(∀ b,S b->W'.heap[b]?=W.heap[b]?)->(∀ (b:Nat) (cur:Array Value) (e:TypeId) (m:Nat×Nat),W.heap[b]?=some (Obj.cells cur e m)->W'.heap[b]?=some (Obj.cells cur e m))->(W'.os=W.os/\W'.tape=W.tape/\W'.output=W.output)->J S W'
def Gives {α:Type} (P:Program) (sv:Value) (encs:α->Array Value) (xs:List α) (M Mm:Nat->Prop) (Q:Nat->World->Prop):Prop :=
 (∀ k W W',Q k W->InW M W->W.heap.size<=W'.heap.size->(∀ b,M b->W'.heap[b]?=W.heap[b]?)->Q k W')/\(∃ g lb,sv=.func (.func g) #[] lb)/\(∀ b,Mm b->M b) /\
 ∀ (yf:Fn) (yb:Array Value) (J Jx:Nat->(Nat->Prop)->World->Prop) (S:Nat->Prop) (W:World),(∀ k,Loc (J k))->(∀ k,Loc (Jx k)) ->
  InW S W->InW M W->(∀ b,S b->¬ M b)->Q 0 W->J 0 S W ->
  (∀ k (hk:k<xs.length) S1 W1,InW S1 W1->Chg (fun b=>S b∨Mm b) W W1->J k S1 W1 ->
   CallsV P (.func yf #[] yb) (encs xs[k]) W1 fun e W2=>∃ S2,Grows S1 S2 W1/\InW S2 W2/\Chg S1 W1 W2 /\
    ((e=.returned (.bool true)/\J (k+1) S2 W2)∨(e=.returned (.bool false)/\Jx (k+1) S2 W2))) ->
  CallsV P sv #[.func yf #[] yb] W fun e W'=>∃ v S',e=.returned v/\Grows S S' W/\InW S' W'/\Chg (fun b=>S b∨Mm b) W W' /\
   ((J xs.length S' W'/\Q xs.length W')∨∃ k,0<k/\k<=xs.length/\Jx k S' W'/\Q k W')
theorem wpIn_rangeFunc_sep {α:Type} {n:Nat} {P:Program} {g:Operand} {ps:Array Tmp} {assign body:Code} {Q:Exit->Act->World->Prop} {a:Act} {w:World}
  {sv:Value} (hg:a.eval g=sv) {encs:α->Array Value} {xs:List α} {M Mm:Nat->Prop} {Qi:Nat->World->Prop} (hgv:Gives P sv encs xs M Mm Qi) (hps:∀ x,(encs x).size=ps.size)
  (I:Nat->(Nat->Prop)->World->Prop) (Ix:Code->Nat->(Nat->Prop)->World->Prop) (hI:∀ k,Loc (I k)) (hIx:∀ c k,Loc (Ix c k))
  (S:Nat->Prop) (hS:InW S w) (hM:InW M w) (hSM:∀ b,S b->¬ M b) (hQ:Qi 0 w) (h0:I 0 S w) (a₁:α->Act)
  (hassign:∀ (l:Nat) (x:α) (W:World) (K:Act->World->Prop),K (a₁ x) W ->
   assign.wpIn (Fence.wide.inRound l) 0 P (Exit.then K (fun _ _ _=>False)) { tmps:=(ps.zip (encs x)).foldl (fun t (p,v)=>t.setIfInBounds p v) a.tmps,defers:=[] } W)
  (hbody:∀ (l k:Nat) (hk:k<xs.length) S1 W1,InW S1 W1->Chg (fun b=>S b∨Mm b) w W1->I k S1 W1->body.wpIn (Fence.wide.inRound l) 0 P (aAi I Ix (k+1) S1 W1) (a₁ xs[k]) W1)
  (hdone:∀ S' W',Grows S S' w->InW S' W'->Chg (fun b=>S b∨Mm b) w W'->I xs.length S' W'->Qi xs.length W'->W'.heap[w.heap.size]?=some (.deferred (some []))->¬ S' w.heap.size ->
   Q .normal { a with defers:=eQ w.heap.size::a.defers } W')
  (hstop:∀ c k S' W',0<k->k<=xs.length->Grows S S' w->InW S' W'->Chg (fun b=>S b∨Mm b) w W'->Ix c k S' W'->Qi k W'->W'.heap[w.heap.size]?=some (.deferred (some []))->¬ S' w.heap.size ->
   c.wpIn Fence.wide n P Q { a with defers:=eQ w.heap.size::a.defers } W') :
  (Code.rangeFunc g ps assign body).wpIn Fence.wide n P Q a w:=by
 refine wpIn_rangeFunc ?_;intro fn hfn;obtain⟨D,hD⟩:∃ D,w.heap.size=D:=⟨_,rfl⟩;obtain⟨rec,hrec⟩:∃ rec:LoopState->Option Code->Loop,rec=fun st pe=>{ state:=st,pending:=pe,fn,tmps:=a.tmps,params:=ps,assign,body,defers:=D }:=⟨_,rfl⟩
 obtain⟨w1,hw1⟩:∃ w1,(w.alloc (.deferred (some []))).alloc (.loop (rec .ready none))=w1:=⟨_,rfl⟩
 have hL1:w1.heap[D+1]?=some (.loop (rec .ready none)):=by
  rw[<- hw1];have:=World.alloc_heap_new (w.alloc (.deferred (some []))) (.loop (rec .ready none));rw[qPq,hD] at this;exact this
 have hK1:w1.heap[D]?=some (.deferred (some [])):=by
  rw[<- hw1,<- hD];exact (Below.heap_alloc _ _ _ (by simp)).trans (World.alloc_heap_new w _)
 have hz1:w1.heap.size=D+2:=(by rw[<- hw1];simp[hD]);have hc1:Chg S w w1:=by rw[<- hw1];exact ((Chg.refl S w).alloc _).alloc _
 have hcB:∀ b,b<D->w1.heap[b]?=w.heap[b]?:=fun b hb=>by
  rw[<- hw1];exact (Below.heap_alloc _ _ _ (by simp;omega)).trans (Below.heap_alloc _ _ _ (by omega))
 have hS':∀ b,S b->b<D:=(fun b hb=>by rw[<- hD];exact hS b hb);have hM':∀ b,M b->b<D:=(fun b hb=>by rw[<- hD];exact hM b hb);have hMm:∀ b,Mm b->b<D:=fun b x=>hM' b (hgv.2.2.1 b x)
 have hcall:=hgv.2.2.2 (.yield (D+1)) #[]
  (fun k T W=>∃ T0,(∀ b,T b↔T0 b∨b=D+1∨b=D)/\¬ T0 (D+1)/\¬ T0 D/\I k T0 W/\D+2<=W.heap.size/\W.heap[D+1]?=some (.loop (rec .ready none))/\W.heap[D]?=some (.deferred (some [])))
  (fun k T W=>∃ T0,(∀ b,T b↔T0 b∨b=D+1∨b=D)/\¬ T0 (D+1)/\¬ T0 D/\D+2<=W.heap.size/\∃ c,Ix c k T0 W/\W.heap[D+1]?=some (.loop (rec .done (some c)))/\W.heap[D]?=some (.deferred (some [])))
  (fun b=>S b∨b=D+1∨b=D) w1
  (by
   rintro k T W W' ⟨T0,hT,h1,h2,hi,hz,hl,hd⟩ hin hsz hb hkc hos;exact⟨T0,hT,h1,h2,hI k T0 W W' hi (fun b h=>hin b ((hT b).2 (.inl h))) hsz (fun b h=>hb b ((hT b).2 (.inl h))) hkc hos,by omega,(hb _ ((hT _).2 (.inr (.inl rfl)))).trans hl,(hb _ ((hT _).2 (.inr (.inr rfl)))).trans hd⟩)
  (by
   rintro k T W W' ⟨T0,hT,h1,h2,hz,c,hi,hl,hd⟩ hin hsz hb hkc hos;exact⟨T0,hT,h1,h2,by omega,c,hIx c k T0 W W' hi (fun b h=>hin b ((hT b).2 (.inl h))) hsz (fun b h=>hb b ((hT b).2 (.inl h))) hkc hos,(hb _ ((hT _).2 (.inr (.inl rfl)))).trans hl,(hb _ ((hT _).2 (.inr (.inr rfl)))).trans hd⟩)
  (by rintro b (h|rfl|rfl) <;> rw[hz1]
      ·have:=hS' b h;omega
      ·omega
      ·omega)
  (fun b h=>by rw[hz1];have:=hM' b h;omega)
  (by rintro b (h|rfl|rfl) hm
      ·exact hSM b h hm
      ·have:=hM' _ hm;omega
      ·have:=hM' _ hm;omega)
  (hgv.1 0 w w1 hQ hM (by rw[hz1];omega) (fun b hb=>hcB b (hM' b hb)))
  ⟨S,fun _=>Iff.rfl,fun h=>by have:=hS' _ h;omega,fun h=>by have:=hS' _ h;omega,hI 0 S w w1 h0 hS (by rw[hz1];omega) (fun b hb=>hcB b (hS' b hb)) (fun b cur e m hb=>(hcB b (by have:=lt_of_heap hb;omega)).trans hb) ⟨hc1.os,hc1.tape,hc1.output⟩,by omega,hL1,hK1⟩
  (by
   rintro k hk T W1 hin hchg1 ⟨T0,hT,hn1,hn2,hi,hz,hl,hd⟩;have hsz:=hchg1.size;have hlt:D+1<W1.heap.size:=(by omega);have hy:=run_yield (P:=P) (args:=encs xs[k]) hl (by rw[hrec];exact hps _);rw[hrec] at hy;refine .inr ⟨D+1,fn,_,assign,body,rfl,hy,roundIn_of_wpIn trivial (hassign _ xs[k] W1 _ ⟨_,run_beginRound hl (by rw[hrec]),?_⟩)⟩;obtain⟨W2,hW2⟩:∃ W2,W1.putObj (D+1) (.loop { rec .ready none with state:=.busy })=W2:=⟨_,rfl⟩;rw[hW2];have hz2:W2.heap.size=W1.heap.size:=(by rw[<- hW2];simp);have hl2:W2.heap[D+1]?=some (.loop { rec .ready none with state:=.busy }):=(by rw[<- hW2];exact World.putObj_heap_same hlt);have hd2:W2.heap[D]?=some (.deferred (some [])):=(by rw[<- hW2];exact (World.putObj_heap_other (by omega)).trans hd);have ho2:∀ b,b≠D+1->W2.heap[b]?=W1.heap[b]?:=(fun b hb=>by rw[<- hW2];exact World.putObj_heap_other hb);have hin0:InW T0 W1:=(fun b h=>hin b ((hT b).2 (.inl h)));have hi2:I k T0 W2:=hI k T0 W1 W2 hi hin0 (by omega) (fun b h=>ho2 b (fun e=>hn1 (e▸h))) (fun b cur e m hb=>(ho2 b (fun e'=>by rw[e',hl] at hb;cases hb)).trans hb) (by rw[<- hW2];exact⟨rfl,rfl,rfl⟩)
   refine wpIn_mono (hbody (D+1) k hk T0 W2 (fun b h=>by rw[hz2];exact hin0 b h) (by
    have:Chg (fun b=>S b∨Mm b) w W1:=hc1.trans hchg1 (fun _ _ h=>.inl h) (fun b hb h=>by
     rcases h with (h|h|h) | h
     ·exact .inl h
     ·omega
     ·omega
     ·exact .inr h)
    rw[<- hW2];exact this.putObj (fun h=>by omega) _) hi2) ?_
   have hc2:Chg T W1 W2:=by rw[<- hW2];exact (Chg.refl T W1).putObj (fun _=>(hT _).2 (.inr (.inl rfl))) _
   have fin:∀ (jump:Option Code) (S2:Nat->Prop) (W3:World),Grows T0 S2 W2->InW S2 W3->Chg T0 W2 W3->∃ W4,
     (Instr.endRound (D+1) jump).run P W3=.ok (.bool jump.isNone) W4/\W4.heap.size=W3.heap.size/\(∀ b,b≠D+1->W4.heap[b]?=W3.heap[b]?) /\
     ¬ S2 (D+1)/\¬ S2 D/\Grows T (fun b=>S2 b∨b=D+1∨b=D) W1/\InW (fun b=>S2 b∨b=D+1∨b=D) W4/\Chg T W1 W4/\D+2<=W4.heap.size /\
     W4.heap[D+1]?=some (.loop (rec (if jump.isNone then .ready else .done) jump))/\W4.heap[D]?=some (.deferred (some [])):=fun jump S2 W3 hgr hin2 hch=>by
    have hz3:=hch.size;have hl3:W3.heap[D+1]?=some (.loop { rec .ready none with state:=.busy }):=(hch.block _ (by omega) hn1).trans hl2;have hd3:W3.heap[D]?=some (.deferred (some [])):=(hch.block _ (by omega) hn2).trans hd2
    have hs1:¬ S2 (D+1):=fun h=>by
     rcases hgr _ h with h1|h1
     ·exact hn1 h1
     ·omega
    have hs2:¬ S2 D:=fun h=>by
     rcases hgr _ h with h1|h1
     ·exact hn2 h1
     ·omega
    have her:=run_endRound (P:=P) jump hl3;refine⟨_,her,by simp,fun b hb=>World.putObj_heap_other hb,hs1,hs2,?_,?_,?_,by simp;omega,?_,(World.putObj_heap_other (by omega)).trans hd3⟩
    ·rintro b (h|h|h)
     ·rcases hgr b h with h1|h1
      ·exact .inl ((hT b).2 (.inl h1))
      ·exact .inr (by omega)
     ·exact .inl ((hT b).2 (.inr (.inl h)))
     ·exact .inl ((hT b).2 (.inr (.inr h)))
    ·rintro b (h|h|h)
     ·have:=hin2 b h;simpa using this
     ·simp;omega
     ·simp;omega
    ·refine (hc2.trans hch (fun _ _ h=>h) (fun b _ h=>(hT b).2 (.inl h))).putObj (fun _=>(hT _).2 (.inr (.inl rfl))) _
    ·rw[World.putObj_heap_same (by omega),hrec]
   rintro e a3 W3 hp;cases e with
   | normal =>
    obtain⟨S2,hgr,hin2,hch,hi3⟩:=hp;obtain⟨W4,hr,hz4,ho4,hs1,hs2,hg4,hi4,hc4,hm4,hl4,hd4⟩:=fin none S2 W3 hgr hin2 hch;exact⟨_,_,hr,_,hg4,hi4,hc4,.inl ⟨rfl,S2,fun _=>Iff.rfl,hs1,hs2,hI _ _ _ _ hi3 hin2 (by omega) (fun b h=>ho4 b (fun e=>hs1 (e▸h))) (fun b cur e m hb=>(ho4 b (fun e'=>by rw[e',(hch.block _ (by omega) hn1).trans hl2] at hb;cases hb)).trans hb) ⟨hc4.os.trans (hch.os.trans hc2.os).symm,hc4.tape.trans (hch.tape.trans hc2.tape).symm,hc4.output.trans (hch.output.trans hc2.output).symm⟩,hm4,hl4,hd4⟩⟩
   | ret =>
    obtain⟨S2,hgr,hin2,hch,hi3⟩:=hp;obtain⟨W4,hr,hz4,ho4,hs1,hs2,hg4,hi4,hc4,hm4,hl4,hd4⟩:=fin (some .ret) S2 W3 hgr hin2 hch;exact⟨_,_,hr,_,hg4,hi4,hc4,.inr ⟨rfl,S2,fun _=>Iff.rfl,hs1,hs2,hm4,_,hIx _ _ _ _ _ hi3 hin2 (by omega) (fun b h=>ho4 b (fun e=>hs1 (e▸h))) (fun b cur e m hb=>(ho4 b (fun e'=>by rw[e',(hch.block _ (by omega) hn1).trans hl2] at hb;cases hb)).trans hb) ⟨hc4.os.trans (hch.os.trans hc2.os).symm,hc4.tape.trans (hch.tape.trans hc2.tape).symm,hc4.output.trans (hch.output.trans hc2.output).symm⟩,hl4,hd4⟩⟩
   | exit id =>
    obtain⟨S2,hgr,hin2,hch,hi3⟩:=hp;obtain⟨W4,hr,hz4,ho4,hs1,hs2,hg4,hi4,hc4,hm4,hl4,hd4⟩:=fin (some (.exit id)) S2 W3 hgr hin2 hch;exact⟨_,_,hr,_,hg4,hi4,hc4,.inr ⟨rfl,S2,fun _=>Iff.rfl,hs1,hs2,hm4,_,hIx _ _ _ _ _ hi3 hin2 (by omega) (fun b h=>ho4 b (fun e=>hs1 (e▸h))) (fun b cur e m hb=>(ho4 b (fun e'=>by rw[e',(hch.block _ (by omega) hn1).trans hl2] at hb;cases hb)).trans hb) ⟨hc4.os.trans (hch.os.trans hc2.os).symm,hc4.tape.trans (hch.tape.trans hc2.tape).symm,hc4.output.trans (hch.output.trans hc2.output).symm⟩,hl4,hd4⟩⟩
   | goto t=>exact hp.elim
   | panic ch=>exact hp.elim
   | outgrown=>exact hp.elim)
 have hev:a.eval g=sv:=hg
 have hpost:∀ e W2,(∃ v S',e=Ending.returned v/\Grows (fun b=>S b∨b=D+1∨b=D) S' w1/\InW S' W2/\Chg (fun b=>(S b∨b=D+1∨b=D)∨Mm b) w1 W2 /\
   (((∃ T0,(∀ b,S' b↔T0 b∨b=D+1∨b=D)/\¬ T0 (D+1)/\¬ T0 D/\I xs.length T0 W2/\D+2<=W2.heap.size/\W2.heap[D+1]?=some (.loop (rec .ready none))/\W2.heap[D]?=some (.deferred (some [])))/\Qi xs.length W2) ∨
    ∃ k,0<k/\k<=xs.length/\(∃ T0,(∀ b,S' b↔T0 b∨b=D+1∨b=D)/\¬ T0 (D+1)/\¬ T0 D/\D+2<=W2.heap.size/\∃ c,Ix c k T0 W2/\W2.heap[D+1]?=some (.loop (rec .done (some c)))/\W2.heap[D]?=some (.deferred (some [])))/\Qi k W2)) ->
   rangePost Fence.wide n P (D+1) Q { a with defers:=[eQ D]++a.defers } e W2:=by
  rintro e W2 ⟨v,S',rfl,hgr,hin,hch,hend⟩
  have grow:∀ T0:Nat->Prop,(∀ b,S' b↔T0 b∨b=D+1∨b=D)->¬ T0 (D+1)->¬ T0 D->Grows S T0 w:=fun T0 hT hn1 hn2 b hb=>by
   rcases hgr b ((hT b).2 (.inl hb)) with (h1|h1|h1) | h1
   ·exact .inl h1
   ·exact absurd (h1▸hb) hn1
   ·exact absurd (h1▸hb) hn2
   ·exact .inr (by omega)
  have hchg:∀ o:Obj,Chg (fun b=>S b∨Mm b) w (W2.putObj (D+1) o):=fun o =>
   ((hc1.trans hch (T:=fun b=>S b∨Mm b) (fun _ _ h=>.inl h) (fun b hb h=>by
    rcases h with (h|h|h) | h
    ·exact .inl h
    ·omega
    ·omega
    ·exact .inr h)).putObj (fun h=>by omega) o)
  rcases hend with ⟨⟨T0,hT,hn1,hn2,hi,hz,hl,hd⟩,hq⟩ | ⟨k,hk0,hk,⟨T0,hT,hn1,hn2,hz,c,hi,hl,hd⟩,hq⟩
  ·have hin0:InW T0 W2:=(fun b h=>hin b ((hT b).2 (.inl h)));refine⟨none,_,by have:=run_endLoop (P:=P) hl (by rw[hrec];simp);rw[hrec] at this;exact this,?_⟩
   have:=hdone T0 (W2.putObj (D+1) (.loop { rec .ready none with state:=.exhausted })) (grow T0 hT hn1 hn2) (fun b h=>by simpa using hin0 b h) (hchg _)
    (hI _ _ _ _ hi hin0 (by simp) (fun b h=>World.putObj_heap_other (fun e=>hn1 (e▸h))) (fun b cur e m hb=>(World.putObj_heap_other (fun e'=>by rw[e',hl] at hb;cases hb)).trans hb) ⟨rfl,rfl,rfl⟩)
    (hgv.1 _ _ _ hq (fun b h=>by have:=hM' b h;omega) (by simp) (fun b h=>World.putObj_heap_other (by have:=hM' b h;omega)))
    (by rw[hD];exact (World.putObj_heap_other (by omega)).trans hd) (by rw[hD];exact hn2)
   rw[hD,hrec] at this;exact this
  ·have hin0:InW T0 W2:=(fun b h=>hin b ((hT b).2 (.inl h)));refine⟨some c,_,by have:=run_endLoop (P:=P) hl (by rw[hrec];simp);rw[hrec] at this;exact this,?_⟩
   have:=hstop c k T0 (W2.putObj (D+1) (.loop { rec .done (some c) with state:=.exhausted })) hk0 hk (grow T0 hT hn1 hn2) (fun b h=>by simpa using hin0 b h) (hchg _)
    (hIx _ _ _ _ _ hi hin0 (by simp) (fun b h=>World.putObj_heap_other (fun e=>hn1 (e▸h))) (fun b cur e m hb=>(World.putObj_heap_other (fun e'=>by rw[e',hl] at hb;cases hb)).trans hb) ⟨rfl,rfl,rfl⟩)
    (hgv.1 _ _ _ hq (fun b h=>by have:=hM' b h;omega) (by simp) (fun b h=>World.putObj_heap_other (by have:=hM' b h;omega)))
    (by rw[hD];exact (World.putObj_heap_other (by omega)).trans hd) (by rw[hD];exact hn2)
   rw[hD,hrec] at this;exact this
 rcases hcall with ⟨gf,lb,rfl,he,hc⟩ | ⟨l',_,_,_,_,rfl,hr',hc'⟩
 ·refine⟨D+1,[eQ D],w1,{ target:=.fn (.func gf) lb,args:=#[.func (.yield (D+1)) #[] #[]] },w1,gf,
   #[.func (.yield (D+1)) #[] #[]]++lb,w1,?_,?_,fun _ _=>trivial,?_,fun h=>by simp[Fence.wide] at h,?_⟩
  ·rw[<- hw1,hrec,<- hD];exact run_enterLoop_outer _ _ _ _ _
  ·simp only[resolve,hg];simp[go_sem]
  ·simp[invoke,go_sem,he]
  exact callsIn_wide.2 (hc.mono hpost)
 
 obtain⟨g',lb',hh⟩:=hgv.2.1;cases hh
attribute [local go_sem] Oper.semAt_some
attribute [local go_sem] jC jD fR cX
structure Came (J:Nat->(Nat->Prop)->World->Prop) (S:Nat->Prop) (W:World) (k:Nat) (S1:Nat->Prop) (W1:World):Prop where
 j:J k S1 W1
 inW:InW S1 W1
 grows:Grows S S1 W
 chg:Chg S W W1
theorem Came.next {J:Nat->(Nat->Prop)->World->Prop} {S S1 S2:Nat->Prop} {W W1 W2:World} {k:Nat} (h:Came J S W k S1 W1) {J':Nat->(Nat->Prop)->World->Prop} {k':Nat}
  (hg:Grows S1 S2 W1) (hi:InW S2 W2) (hc:Chg S1 W1 W2) (hj:J' k' S2 W2):Came J' S W k' S2 W2 :=
 ⟨hj,hi,h.grows.trans hg h.chg.size,h.chg.trans hc (fun _ _ x=>x) (fun b hb x=>(h.grows b x).resolve_right (by omega))⟩
theorem Came.alloc {J:Nat->(Nat->Prop)->World->Prop} {S S1:Nat->Prop} {W W1:World} {k:Nat} (h:Came J S W k S1 W1) (hJ:Loc (J k)) (o:Obj):Came J S W k S1 (W1.alloc o)/\¬ S1 W1.heap.size :=
 ⟨⟨hJ S1 W1 _ h.j h.inW (by simp) (fun b hb=>Below.heap_alloc _ _ _ (h.inW b hb)) (fun b cur e m hb=>(Below.heap_alloc _ _ _ (lt_of_heap hb)).trans hb) ⟨rfl,rfl,rfl⟩,h.inW.later (by simp),h.grows,h.chg.alloc o⟩,fun hb=>Nat.lt_irrefl _ (h.inW _ hb)⟩
theorem mD (c:Nat) {la:List R2} {pa:Option Addr} {ca:Nat} (ha:Nrm la) (yv:Value) (J Jx:Nat->(Nat->Prop)->World->Prop) (S:Nat->Prop) (W:World) (hJ:∀ k,Loc (J k)) (hS:InW S W)
  (hc:W.cell? ⟨c,0,none⟩=some (.slice pa la.length ca)) (hv:Mv W (.slice pa la.length ca) la) (hbS:∀ g,pa=some ⟨g,0,none⟩->¬ S g) (h0:J 0 S W)
  (hY:∀ k (hk:k<(els la).length) S1 W1,InW S1 W1->Chg (fun b=>S b∨False) W W1->J k S1 W1 ->
   CallsV Tryz.prog yv (enc1 (els la)[k]) W1 fun e W2=>∃ S2,Grows S1 S2 W1/\InW S2 W2/\Chg S1 W1 W2 /\
    ((e=.returned (.bool true)/\J (k+1) S2 W2)∨(e=.returned (.bool false)/\Jx (k+1) S2 W2))) :
  Calls Tryz.prog 112 #[yv,.pointer (some ⟨c,0,none⟩)] W fun e W'=>∃ v,e=.returned v/\((∃ S',Came J S W (els la).length S' W')∨∃ k S',0<k/\k<=(els la).length/\Came Jx S W k S' W'):=by
 obtain⟨na,hna⟩:∃ na,la.length=na:=⟨_,rfl⟩;have HV:=qAq (qBq hv (qBq hna (qBq ha hbS)));have HY:=qAq hY;have hla:=eI ha;have HJ:=qAq hJ;rw[hna] at hc hla;clear hv ha hbS hna hY hJ;refine (callsIn_wide (n:=0)).1 ?_;refine callsIn_of_wp Tryz.func112 rfl trivial ?_ rfl;simp only[Tryz.ntmps112,List.size_toArray,List.length_cons,List.length_nil,Nat.reduceAdd,Nat.reduceSub,Array.replicate_succ,Array.replicate_zero,List.push_toArray,List.append_toArray,List.nil_append,List.cons_append]
 gi_wp2
 gi_loopw [9] (fun iv wr=>∃ (j:Nat) (S1:Nat->Prop),j<=na/\iv=.int .i64 (j:Int)/\Came J S W (els (la.take j)).length S1 wr) (fun iv _=>na-(intOf iv).toNat)
 case atStart=>exact⟨0,S,Nat.zero_le _,rfl,⟨h0,hS,.refl _ _,.refl _ _⟩⟩
 obtain⟨j,S1,hj,rfl,hC⟩:=hrel;by_cases hlt:j<na
 ·have hja:j<la.length:=(by rw[HV.out.2.1];exact hlt);obtain⟨g,rfl,hg,a0,a1,a2⟩:=HV.out.1.run hja;have hgS:=HV.out.2.2.2 g rfl;have a0:=(hC.chg.cell (p:=⟨g,j*3,none⟩) hg hgS).trans a0;have a1:=(hC.chg.cell (p:=⟨g,j*3+1,none⟩) hg hgS).trans a1;have a2:=(hC.chg.cell (p:=⟨g,j*3+2,none⟩) hg hgS).trans a2;have hat:∀ d:Nat,(d:Int)<la[j].2-la[j].1->(els la)[(els (la.take j)).length+d]?=some (la[j].1+(d:Int)):=(fun d hd=>aCK hja hd);have hrb:=HV.out.2.2.1.2 la[j] (List.getElem_mem _);have hnext:(els (la.take (j+1))).length=(els (la.take j)).length+(la[j].2-la[j].1).toNat:=(by rw[List.take_succ_eq_append_getElem hja,fG,nO,List.length_append,jG]);obtain⟨r,hr⟩:∃ r,la[j]=r:=⟨_,rfl⟩;simp only[hr] at a0 a1 hat hrb hnext;obtain⟨f,t⟩:=r;obtain⟨cj,hcj⟩:∃ cj,(els (la.take j)).length=cj:=⟨_,rfl⟩;simp only[hcj] at a2 hC hnext hat;have HA:=qAq (qBq hat hnext);obtain⟨hC1,hn1⟩:=hC.alloc (HJ.out cj) (.cells #[(Value.int .i64 (f)),(Value.int .i64 (t)),(Value.int .i64 ((cj:Int)))] 160);have hf0:0<=f:=hrb.1;have hft:f<t:=hrb.2.1;have ht6:t<=65536:=hrb.2.2;have hbx:=qOq wr (.cells #[(Value.int .i64 (f)),(Value.int .i64 (t)),(Value.int .i64 ((cj:Int)))] 160);obtain⟨rb,hrb'⟩:∃ rb,wr.heap.size=rb:=⟨_,rfl⟩;have HC:=qAq (qBq hC1 (qBq hn1 hbx));rw[hrb'] at HC;clear hcj hr hat hnext hrb hC1 hn1 hbx hC hc
  gi_wp2
  gi_loopw [5] (fun iv w=>∃ (d:Nat) (S2:Nat->Prop),(d:Int)<=t-f/\iv=.int .i64 (f+(d:Int))/\Came J S W (cj+d) S2 w/\¬ S2 rb/\w.heap[rb]?=some (.cells #[(Value.int .i64 (f)),(Value.int .i64 (t)),(Value.int .i64 ((cj:Int)))] 160)) (fun iv _=>(t-intOf iv).toNat)
  case atStart=>exact⟨0,S1,by omega,by simp,HC.out.1,HC.out.2.1,HC.out.2.2⟩
  clear a0 a1 a2;obtain⟨d,S2,hd,rfl,hC,hn,hx⟩:=hrel;have x1:=aA hx 1;have hrl:=lt_of_heap hx;have HX:=qAq (qBq hC (qBq hn hx));clear hC hn hx;by_cases hdl:(d:Int)<t-f
  ·obtain⟨hkl,hke⟩:=List.getElem?_eq_some_iff.1 (HA.out.1 d hdl);have hY1:=HY.out (cj+d) hkl S2 wr HX.out.1.inW (HX.out.1.chg.mono fun _ _ x=>.inl x) HX.out.1.j;rw[hke] at hY1;have hlt':f+(d:Int)<t:=(by omega);clear hkl hke
   gi_wp2_with ((with_reducible refine iE ?_ ?_ yv [(Value.int .i64 (f+(d:Int)))] ?_ ?_ ?_);rfl;rfl;rfl;rfl;refine hY1.mono ?_;clear hY1;rintro e W2 ⟨S3,hg3,hi3,hch3,(⟨rfl,hj3⟩ | ⟨rfl,hj3⟩)⟩ <;> refine⟨_,rfl,?_⟩)
   ·go_roundw
    case rel=>exact⟨d+1,S3,by omega,by congr 1 <;> omega,HX.out.1.next hg3 hi3 hch3 hj3,fun h=>(hg3 rb h).elim HX.out.2.1 (fun h=>by omega),(hch3.block rb hrl HX.out.2.1).trans HX.out.2.2⟩
    simp[intOf];omega
   refine bodyPost_ret (results_none rfl _ _ _) rfl ?_
   exact⟨_,rfl,.inr ⟨cj+d+1,S3,by omega,by
    have:=(List.getElem?_eq_some_iff.1 (HA.out.1 d hdl)).1
    omega,HX.out.1.next hg3 hi3 hch3 hj3⟩⟩
  have hlt':¬ f+(d:Int)<t:=by omega
  gi_wp2
  go_roundw
  case rel=>exact⟨j+1,S2,by omega,by simp,by
   rw[HA.out.2];have e:(t-f).toNat=d:=(by omega);show Came J S W (cj+(t-f).toNat) S2 wr;rw[e];exact HX.out.1⟩
  simp[intOf];omega
 have e:els (la.take j)=els la:=(by rw[List.take_of_length_le (by rw[HV.out.2.1];omega)]);rw[e] at hC;have HC:=qAq hC;clear hC e hc
 gi_wp2
 go_end0
 exact⟨_,rfl,.inl ⟨S1,HC.out⟩⟩
theorem all_gives (c:Nat) {la:List R2} {va:Value} (ha:Nrm la) (W0:World) (hv0:Mv W0 va la):Gives Tryz.prog (.func (.func 112) #[] #[(Value.pointer (some ⟨c,0,none⟩))]) enc1 (els la) (fun b=>b=c∨va.ownBlock=some b) (fun _=>False) (fun _ W=>Cell W c va/\Mv W va la):=by
 obtain⟨pa,ca,rfl,_,_⟩:=hv0.slice;refine⟨fun k W W' ⟨h1,h2⟩ _ _ hb=>⟨h1.of (hb c (.inl rfl)),HRow.of h2 (fun b h=>hb b (.inr h))⟩,⟨112,_,rfl⟩,fun _ x=>x.elim,?_⟩;rintro yf yb J Jx S W hJ hJx hS hM hSM ⟨hc,hq⟩ h0 hY;refine .inl ⟨112,_,rfl,enters_of Tryz.func112 (by kernel_rfl) rfl,?_⟩;have hw:=mD c (pa:=pa) (ca:=ca) ha (.func yf #[] yb) J Jx S W hJ hS hc.1 hq (fun g hg hs=>hSM g hs (.inr (by subst hg;rfl))) h0 hY;refine hw.mono ?_
 have hq':∀ W',Chg S W W'->Cell W' c (.slice pa la.length ca)/\Mv W' (.slice pa la.length ca) la:=fun W' h =>
  ⟨hc.of (h.block c (hM c (.inl rfl)) (fun x=>hSM c x (.inl rfl))),HRow.of hq (fun b hb=>h.block b (hM b (.inr hb)) (fun x=>hSM b x (.inr hb)))⟩
 rintro e W' ⟨v,rfl,(⟨S',h⟩ | ⟨k,S',hk0,hk,h⟩)⟩
 ·exact⟨v,S',rfl,h.grows,h.inW,h.chg.mono (fun _ _ x=>.inl x),.inl ⟨h.j,hq' _ h.chg⟩⟩
 exact⟨v,S',rfl,h.grows,h.inW,h.chg.mono (fun _ _ x=>.inl x),.inr ⟨k,hk0,hk,h.j,hq' _ h.chg⟩⟩
end Go.Proofs.YtgbkmjnnlkgpnaaGreat.Kc
namespace Go.Proofs.YtgbkmjnnlkgpnaaGreat
open Go Go.RowKit Go.Shelf Go.Proofs
attribute [local go_sem] Oper.semAt_some
attribute [local go_sem] jC jD fR cX
theorem aGp {l:List R2} {P:Int->Bool} {xs:List Int} (hl:Nrm l) (hP:Is l P) (hs:xs.Pairwise (·<·)) (h:∀ x,P x=true↔x∈xs):els l=xs :=
 aAk (aAl hl) hs (fun x=>by rw[sP,hP x,h x])
abbrev L3:List R2:=[(1,3),(5,6)]
def p3 (x:Int):Bool:=decide (x=1∨x=2∨x=5)
structure Bh (W:World) (v:Value) (mb nb g D:Nat) (x:World):Prop where
 mv:Mv x v L3
 kb:x.heap[mb]?=some (.cells #[v] 113)
 kn:x.cell? ⟨nb,0,none⟩=some (.int .i64 (3))
 r0:x.cell? ⟨g,0,none⟩=some (.int .i64 (1))
 r1:x.cell? ⟨g,1,none⟩=some (.int .i64 (3))
 kd:x.heap[D]?=some (.deferred (some []))
 bel:Below W.heap.size W x
