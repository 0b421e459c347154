import Derived.Test.YtkchgbjoeggdbaaGreatZn17
set_option maxHeartbeats 2000000
set_option maxRecDepth 100000
namespace Go.Proofs.YtkchgbjoeggdbaaGreat
open Go.Proofs.Tryz
open Go Go.RowKit Go.Proofs
def BJ(l:List R2):List Value:=l.flatMap fun x=>[.int .i64 x.1,.int .i64 x.2]
end Go.Proofs.YtkchgbjoeggdbaaGreat
namespace Go.Proofs.YtkchgbjoeggdbaaGreat
open Go.Proofs.Tryz
open Go Go.RowKit Go.Shelf Go.Proofs
section
variable{P:Program}{w:World}
theorem bH(f:Nat):Fence.wide.fn f:=trivial
theorem aR:Fence.wide.depth=none:=rfl
end
attribute [local go_sem] Oper.semAt_some
attribute [local go_sem] fK fL bH aR
def enc1(x:Int):Array Value:=#[.int .i64 x]
structure Came (J:Nat->(Nat->Prop)->World->Prop) (S:Nat->Prop) (W:World) (k:Nat) (S1:Nat->Prop) (W1:World):Prop where
 j:J k S1 W1
 AF:fi S1 W1
 grows:Grows S S1 W
 chg:Chg S W W1
theorem Fw{la:List R2}{j:Nat}(hj:j<la.length){d:Nat}(hd:(d:Int)<la[j].2-la[j].1):(els la)[(els (la.take j)).length+d]?=some (la[j].1+(d:Int)):=by
 have a:els la=els (la.take j)++(rng la[j].1 la[j].2++els (la.drop (j+1))):=by
  have b:=vB la j hj;rw[<-pV,<-eH,<-eH,<-b]
 rw[a,ya (by omega),xu (by rw[iG];omega),Nat.add_sub_cancel_left,FX (by omega)]
theorem eD{va:Value}{la:List R2}{W:World}(hv:Mv W va la):Calls prog 16 #[.agg #[va]] W fun e a=>e=.returned (.func (.func 43) #[] #[.pointer (some ⟨W.heap.size,0,none⟩)])/\a=W.alloc (.cells #[va] 29):=by
 obtain⟨b,c,rfl,_,_⟩:=hv.slice;clear hv;go_enter func16,ntmps16
 go_wp2
 go_ret;exact⟨rfl,rfl⟩
def Bm(w:World)(b:Nat)(v:Value)(P:Int->Bool):Prop:=∃l,w.heap[b]?=some (.cells #[v] 29)/\Mv w v l/\Nrm l/\Is l P
def Vm(w:World)(v:Value)(P:Int->Bool):Prop:=∃l,Mv w v l/\Nrm l/\Is l P
theorem Vm.later{w w':World}{v:Value}{P:Int->Bool}(h:Vm w v P)(hb:Below w.heap.size w w'):Vm w' v P:=by
 obtain⟨l,a,b,c⟩:=h;exact⟨l,a.later hb,b,c⟩
theorem Vm.slc{w:World}{v:Value}{P:Int->Bool}(h:Vm w v P):∃p n c,v=.slice p n c:=by
 obtain⟨l,h,_⟩:=h;obtain⟨p,c,e,_⟩:=h.slice;exact⟨p,_,c,e⟩
def rq(P:Int->Bool)(W:World)(e:Ending)(w':World):Prop:=∃p n c,e=.returned (.agg #[.slice p n c])/\Vm w' (.slice p n c) P/\Below W.heap.size W w'
theorem IsMap.v{P:Int->Bool}{W:World}{e:Ending}{w':World}(h:IsMap P W e w'):rq P W e w':=by
 obtain⟨v,l,b,a,d,f,g⟩:=h;obtain⟨p,c,i,_⟩:=a.slice;subst i;exact⟨p,_,c,b,⟨l,a,d,f⟩,g⟩
section
variable{W:World}{va vb:Value}{P Q:Int->Bool}
theorem vor(ha:Vm W va P)(hb:Vm W vb Q):Calls prog 82 #[.agg #[va],.agg #[vb]] W (rq (fun x=>P x || Q x) W):=by
 obtain⟨la,a,b,c⟩:=ha;obtain⟨lb,d,e,f⟩:=hb;exact(Hs b e a d c f).mono fun _ _ h=>h.v
theorem Hu(ha:Vm W va P)(n:Int):Calls prog 41 #[.agg #[va],.int .i64 n] W (rq (notP P n) W):=by
 obtain⟨la,a,b,c⟩:=ha;exact(Hq b a c n).mono fun _ _ h=>h.v
theorem vof{p:Option Addr}{xs:List Int}{n c:Nat}(hn:xs.length=n)(hl:n<=100000)(hr:Rd W p xs):Calls prog 27 #[.slice p n c] W (rq (ry xs) W):=(Ej hn hl hr).mono fun _ _ h=>h.v
theorem Ca(ha:Vm W va P):Calls prog 9 #[.agg #[va]] W fun e b=>e=.returned (.int .i64 ((elems P).length:Int))/\Below W.heap.size W b:=by
 obtain⟨la,c,a,d⟩:=ha;rw[<-d.els a];exact ax a c
end
end Go.Proofs.YtkchgbjoeggdbaaGreat
namespace Go.Proofs.YtkchgbjoeggdbaaGreat.Kc
open Go.Proofs.Tryz
open Go Go.RowKit Go.Shelf Go.Proofs
def Loc(J:(Nat->Prop)->World->Prop):Prop:=∀S W W',J S W->fi S W->W.heap.size<=W'.heap.size->(∀b,S b->W'.heap[b]?=W.heap[b]?)->(∀(b:Nat) (cur:Array Value) (e:TypeId) (m:Nat×Nat),W.heap[b]?=some (Obj.cells cur e m)->W'.heap[b]?=some (Obj.cells cur e m))->(W'.os=W.os/\W'.tape=W.tape/\W'.output=W.output)->J S W'
def Gives{α:Type}(P:Program)(sv:Value)(encs:α->Array Value)(xs:List α)(M Mm:Nat->Prop)(Q:Nat->World->Prop):Prop:=
 (∀k W W',Q k W->fi M W->W.heap.size<=W'.heap.size->(∀b,M b->W'.heap[b]?=W.heap[b]?)->Q k W')/\(∃g lb,sv=.func (.func g) #[] lb)/\(∀b,Mm b->M b)/\∀(yf:Fn) (yb:Array Value) (J Jx:Nat->(Nat->Prop)->World->Prop) (S:Nat->Prop) (W:World),(∀k,Loc (J k))->(∀k,Loc (Jx k)) ->
  fi S W->fi M W->(∀b,S b->¬ M b)->Q 0 W->J 0 S W ->
  (∀k (hk:k<xs.length) S1 W1,fi S1 W1->Chg (fun b=>S b∨Mm b) W W1->J k S1 W1 ->
   ig P (.func yf #[] yb) (encs xs[k]) W1 fun e W2=>∃S2,Grows S1 S2 W1/\fi S2 W2/\Chg S1 W1 W2/\((e=.returned (.bool true)/\J (k+1) S2 W2)∨(e=.returned (.bool false)/\Jx (k+1) S2 W2))) ->
  ig P sv #[.func yf #[] yb] W fun e W'=>∃v S',e=.returned v/\Grows S S' W/\fi S' W'/\Chg (fun b=>S b∨Mm b) W W'/\((J xs.length S' W'/\Q xs.length W')∨∃k,0<k/\k<=xs.length/\Jx k S' W'/\Q k W')
theorem eb{α:Type}{n:Nat}{P:Program}{g:Operand}{ps:Array Tmp}{assign body:Code}{Q:Exit->Act->World->Prop}{a:Act}{w:World}{sv:Value}(hg:a.eval g=sv){encs:α->Array Value}{xs:List α}{M Mm:Nat->Prop}{Qi:Nat->World->Prop}(hgv:Gives P sv encs xs M Mm Qi)(hps:∀x,(encs x).size=ps.size)(I:Nat->(Nat->Prop)->World->Prop)(Ix:Code->Nat->(Nat->Prop)->World->Prop)(hI:∀k,Loc (I k))(hIx:∀c k,Loc (Ix c k))(S:Nat->Prop)(hS:fi S w)(hM:fi M w)(hSM:∀b,S b->¬ M b)(hQ:Qi 0 w)(h0:I 0 S w)(a₁:α->Act)(hassign:∀(l:Nat) (x:α) (W:World) (K:Act->World->Prop),K (a₁ x) W -> assign.wpIn (Fence.wide.inRound l) 0 P (Exit.then K (fun _ _ _=>False)) { tmps:=(ps.zip (encs x)).foldl (fun t(p,v)=>t.setIfInBounds p v) a.tmps,defers:=[] } W)(hbody:∀(l k:Nat) (hk:k<xs.length) S1 L,fi S1 L->Chg (fun b=>S b∨Mm b) w L->I k S1 L->body.wpIn (Fence.wide.inRound l) 0 P (sw I Ix (k+1) S1 L) (a₁ xs[k]) L)(hdone:∀X O,Grows S X w->fi X O->Chg (fun b=>S b∨Mm b) w O->I xs.length X O->Qi xs.length O->O.heap[w.heap.size]?=some (.deferred (some []))->¬ X w.heap.size -> Q .normal { a with defers:=gj w.heap.size::a.defers } O)(hstop:∀c k X O,0<k->k<=xs.length->Grows S X w->fi X O->Chg (fun b=>S b∨Mm b) w O->Ix c k X O->Qi k O->O.heap[w.heap.size]?=some (.deferred (some []))->¬ X w.heap.size -> c.wpIn Fence.wide n P Q { a with defers:=gj w.heap.size::a.defers } O):(Code.rangeFunc g ps assign body).wpIn Fence.wide n P Q a w:=by
 refine wpIn_rangeFunc ?_;intro fn d6;obtain⟨D,hD⟩:=ae w.heap.size;obtain⟨r,j⟩:∃r:LoopState->Option Code->Loop,r=fun st pe=>{ state:=st,pending:=pe,fn,tmps:=a.tmps,params:=ps,assign,body,defers:=D }:=⟨_,rfl⟩
 obtain⟨Z,a0⟩:=ae ((w.alloc (.deferred (some []))).alloc (.loop (r .ready none)))
 have c6:Z.heap[D+1]?=some (.loop (r .ready none)):=by
  rw[<-a0];have:=World.alloc_heap_new (w.alloc (.deferred (some []))) (.loop (r .ready none));rw[zm,hD]at this;exact this
 have c7:Z.heap[D]?=some (.deferred (some [])):=by
  rw[<-a0,<-hD];exact(we _ _ _ (by simp)).trans (World.alloc_heap_new w _)
 have b1:Z.heap.size=D+2:=(by rw[<-a0];simp[hD]);have a2:Chg S w Z:=by rw[<-a0];exact((Chg.refl S w).alloc _).alloc _
 have b7:∀b,b<D->Z.heap[b]?=w.heap[b]?:=fun b d=>by
  rw[<-a0];exact(we _ _ _ (by simp;omega)).trans (we _ _ _ (by omega))
 have b2:∀b,S b->b<D:=(fun b d=>by rw[<-hD];exact hS b d);have H:∀b,M b->b<D:=(fun b d=>by rw[<-hD];exact hM b d);have d7:∀b,Mm b->b<D:=fun b x=>H b (hgv.2.2.1 b x)
 have b8:=hgv.2.2.2 (.yield (D+1)) #[]
  (fun k T W=>∃i,(∀b,T b↔i b∨b=D+1∨b=D)/\¬ i (D+1)/\¬ i D/\I k i W/\D+2<=W.heap.size/\W.heap[D+1]?=some (.loop (r .ready none))/\W.heap[D]?=some (.deferred (some [])))
  (fun k T W=>∃i,(∀b,T b↔i b∨b=D+1∨b=D)/\¬ i (D+1)/\¬ i D/\D+2<=W.heap.size/\∃c,Ix c k i W/\W.heap[D+1]?=some (.loop (r .done (some c)))/\W.heap[D]?=some (.deferred (some [])))
  (fun b=>S b∨b=D+1∨b=D) Z
  (by
   rintro k T W O⟨i,hT,J,h2,hi,hz,hl,hd⟩ R b3 d b9 c0;exact⟨i,hT,J,h2,hI k i W O hi (fun b h=>R b ((hT b).2 (.inl h))) b3 (fun b h=>d b ((hT b).2 (.inl h))) b9 c0,by omega,(d _ ((hT _).2 (.inr (.inl rfl)))).trans hl,(d _ ((hT _).2 (.inr (.inr rfl)))).trans hd⟩)
  (by
   rintro k T W O⟨i,hT,J,h2,hz,c,hi,hl,hd⟩ R b3 d b9 c0;exact⟨i,hT,J,h2,by omega,c,hIx c k i W O hi (fun b h=>R b ((hT b).2 (.inl h))) b3 (fun b h=>d b ((hT b).2 (.inl h))) b9 c0,(d _ ((hT _).2 (.inr (.inl rfl)))).trans hl,(d _ ((hT _).2 (.inr (.inr rfl)))).trans hd⟩)
  (by
   rintro b(h|rfl|rfl) <;> rw[b1]
   ·have:=b2 b h;omega
   ·omega
   ·omega)
  (fun b h=>by rw[b1];have:=H b h;omega)
  (by
   rintro b(h|rfl|rfl) hm
   ·exact hSM b h hm
   ·have:=H _ hm;omega
   ·have:=H _ hm;omega)
  (hgv.1 0 w Z hQ hM (by rw[b1];omega) (fun b d=>b7 b (H b d)))
  ⟨S,fun _=>Iff.rfl,fun h=>by have:=b2 _ h;omega,fun h=>by have:=b2 _ h;omega,hI 0 S w Z h0 hS (by rw[b1];omega) (fun b d=>b7 b (b2 b d)) (fun b a1 e m d=>(b7 b (by have:=aB d;omega)).trans d) ⟨a2.os,a2.tape,a2.output⟩,by omega,c6,c7⟩
  (by
   rintro k hk T L R a4⟨i,hT,u,B,hi,hz,hl,hd⟩;have b3:=a4.size;have c8:D+1<L.heap.size:=(by omega);have hy:=run_yield (P:=P) (args:=encs xs[k]) hl (by rw[j];exact hps _);rw[j]at hy;refine .inr ⟨D+1,fn,_,assign,body,rfl,hy,roundIn_of_wpIn trivial (hassign _ xs[k] L _ ⟨_,run_beginRound hl (by rw[j]),?_⟩)⟩;obtain⟨s,U⟩:=ae (L.putObj (D+1) (.loop { r .ready none with state:=.busy }));rw[U];have c9:s.heap.size=L.heap.size:=(by rw[<-U];simp);have b4:s.heap[D+1]?=some (.loop { r .ready none with state:=.busy }):=(by rw[<-U];exact World.putObj_heap_same c8);have d0:s.heap[D]?=some (.deferred (some [])):=(by rw[<-U];exact(yq (by omega)).trans hd);have c3:∀b,b≠D+1->s.heap[b]?=L.heap[b]?:=(fun b d=>by rw[<-U];exact yq d);have z:fi i L:=(fun b h=>R b ((hT b).2 (.inl h)));have d1:I k i s:=hI k i L s hi z (by omega) (fun b h=>c3 b (fun e=>u (e▸h))) (fun b a1 e m d=>(c3 b (fun e'=>by rw[e',hl]at d;cases d)).trans d) (by rw[<-U];exact⟨rfl,rfl,rfl⟩)
   refine wpIn_mono (hbody (D+1) k hk i s (fun b h=>by rw[c9];exact z b h) (by
    have:Chg (fun b=>S b∨Mm b) w L:=a2.trans a4 (fun _ _ h=>.inl h) (fun b d h=>by
     rcases h with (h|h|h) | h
     ·exact .inl h
     ·omega
     ·omega
     ·exact .inr h)
    rw[<-U];exact this.putObj (fun h=>by omega) _) d1) ?_
   have E:Chg T L s:=by rw[<-U];exact(Chg.refl T L).putObj (fun _=>(hT _).2 (.inr (.inl rfl))) _
   have c1:∀(G:Option Code) (N:Nat->Prop) (W3:World),Grows i N s->fi N W3->Chg i s W3->∃W4,
     (Instr.endRound (D+1) G).run P W3=.ok (.bool G.isNone) W4/\W4.heap.size=W3.heap.size/\(∀b,b≠D+1->W4.heap[b]?=W3.heap[b]?)/\¬ N (D+1)/\¬ N D/\Grows T (fun b=>N b∨b=D+1∨b=D) L/\fi (fun b=>N b∨b=D+1∨b=D) W4/\Chg T L W4/\D+2<=W4.heap.size/\W4.heap[D+1]?=some (.loop (r (if G.isNone then .ready else .done) G))/\W4.heap[D]?=some (.deferred (some [])):=fun G N W3 A q f=>by
    have d8:=f.size;have d2:W3.heap[D+1]?=some (.loop { r .ready none with state:=.busy }):=(f.block _ (by omega) u).trans b4;have d3:W3.heap[D]?=some (.deferred (some [])):=(f.block _ (by omega) B).trans d0
    have F:¬ N (D+1):=fun h=>by
     rcases A _ h with J|J
     ·exact u J
     ·omega
    have Y:¬ N D:=fun h=>by
     rcases A _ h with J|J
     ·exact B J
     ·omega
    have d4:=run_endRound (P:=P) G d2;refine⟨_,d4,by simp,fun b d=>yq d,F,Y,?_,?_,?_,by simp;omega,?_,(yq (by omega)).trans d3⟩
    ·rintro b(h|h|h)
     ·rcases A b h with J|J
      ·exact .inl ((hT b).2 (.inl J))
      ·exact .inr (by omega)
     ·exact .inl ((hT b).2 (.inr (.inl h)))
     ·exact .inl ((hT b).2 (.inr (.inr h)))
    ·rintro b(h|h|h)
     ·have:=q b h;simpa using this
     ·simp;omega
     ·simp;omega
    ·refine(E.trans f (fun _ _ h=>h) (fun b _ h=>(hT b).2 (.inl h))).putObj (fun _=>(hT _).2 (.inr (.inl rfl))) _
    ·rw[World.putObj_heap_same (by omega),j]
   rintro e a3 W3 hp;cases e with
   | normal =>
    obtain⟨N,A,q,f,a5⟩:=hp;obtain⟨W4,hr,c4,V,F,Y,a6,a7,y,a8,a9,b0⟩:=c1 none N W3 A q f;exact⟨_,_,hr,_,a6,a7,y,.inl ⟨rfl,N,fun _=>Iff.rfl,F,Y,hI _ _ _ _ a5 q (by omega) (fun b h=>V b (fun e=>F (e▸h))) (fun b a1 e m d=>(V b (fun e'=>by rw[e',(f.block _ (by omega) u).trans b4]at d;cases d)).trans d) ⟨y.os.trans (f.os.trans E.os).symm,y.tape.trans (f.tape.trans E.tape).symm,y.output.trans (f.output.trans E.output).symm⟩,a8,a9,b0⟩⟩
   | ret =>
    obtain⟨N,A,q,f,a5⟩:=hp;obtain⟨W4,hr,c4,V,F,Y,a6,a7,y,a8,a9,b0⟩:=c1 (some .ret) N W3 A q f;exact⟨_,_,hr,_,a6,a7,y,.inr ⟨rfl,N,fun _=>Iff.rfl,F,Y,a8,_,hIx _ _ _ _ _ a5 q (by omega) (fun b h=>V b (fun e=>F (e▸h))) (fun b a1 e m d=>(V b (fun e'=>by rw[e',(f.block _ (by omega) u).trans b4]at d;cases d)).trans d) ⟨y.os.trans (f.os.trans E.os).symm,y.tape.trans (f.tape.trans E.tape).symm,y.output.trans (f.output.trans E.output).symm⟩,a9,b0⟩⟩
   | exit id =>
    obtain⟨N,A,q,f,a5⟩:=hp;obtain⟨W4,hr,c4,V,F,Y,a6,a7,y,a8,a9,b0⟩:=c1 (some (.exit id)) N W3 A q f;exact⟨_,_,hr,_,a6,a7,y,.inr ⟨rfl,N,fun _=>Iff.rfl,F,Y,a8,_,hIx _ _ _ _ _ a5 q (by omega) (fun b h=>V b (fun e=>F (e▸h))) (fun b a1 e m d=>(V b (fun e'=>by rw[e',(f.block _ (by omega) u).trans b4]at d;cases d)).trans d) ⟨y.os.trans (f.os.trans E.os).symm,y.tape.trans (f.tape.trans E.tape).symm,y.output.trans (f.output.trans E.output).symm⟩,a9,b0⟩⟩
   | goto t=>exact hp.elim
   | panic ch=>exact hp.elim
   | outgrown=>exact hp.elim)
 have d9:a.eval g=sv:=hg
 have c2:∀e s,(∃v X,e=Ending.returned v/\Grows (fun b=>S b∨b=D+1∨b=D) X Z/\fi X s/\Chg (fun b=>(S b∨b=D+1∨b=D)∨Mm b) Z s/\(((∃i,(∀b,X b↔i b∨b=D+1∨b=D)/\¬ i (D+1)/\¬ i D/\I xs.length i s/\D+2<=s.heap.size/\s.heap[D+1]?=some (.loop (r .ready none))/\s.heap[D]?=some (.deferred (some [])))/\Qi xs.length s) ∨
    ∃k,0<k/\k<=xs.length/\(∃i,(∀b,X b↔i b∨b=D+1∨b=D)/\¬ i (D+1)/\¬ i D/\D+2<=s.heap.size/\∃c,Ix c k i s/\s.heap[D+1]?=some (.loop (r .done (some c)))/\s.heap[D]?=some (.deferred (some [])))/\Qi k s)) ->
   rangePost Fence.wide n P (D+1) Q { a with defers:=[gj D]++a.defers } e s:=by
  rintro e s⟨v,X,rfl,A,R,f,c5⟩
  have b5:∀i:Nat->Prop,(∀b,X b↔i b∨b=D+1∨b=D)->¬ i (D+1)->¬ i D->Grows S i w:=fun i hT u B b d=>by
   rcases A b ((hT b).2 (.inl d))with (J|J|J) | J
   ·exact .inl J
   ·exact absurd (J▸d) u
   ·exact absurd (J▸d) B
   ·exact .inr (by omega)
  have b6:∀o:Obj,Chg (fun b=>S b∨Mm b) w (s.putObj (D+1) o):=fun o =>
   ((a2.trans f (T:=fun b=>S b∨Mm b) (fun _ _ h=>.inl h) (fun b d h=>by
    rcases h with (h|h|h) | h
    ·exact .inl h
    ·omega
    ·omega
    ·exact .inr h)).putObj (fun h=>by omega) o)
  rcases c5 with ⟨⟨i,hT,u,B,hi,hz,hl,hd⟩,hq⟩ | ⟨k,d5,hk,⟨i,hT,u,B,hz,c,hi,hl,hd⟩,hq⟩
  ·have z:fi i s:=(fun b h=>R b ((hT b).2 (.inl h)));refine⟨none,_,by have:=run_endLoop (P:=P) hl (by rw[j];simp);rw[j]at this;exact this,?_⟩
   have:=hdone i (s.putObj (D+1) (.loop { r .ready none with state:=.exhausted })) (b5 i hT u B) (fun b h=>by simpa using z b h) (b6 _)
    (hI _ _ _ _ hi z (by simp) (fun b h=>yq (fun e=>u (e▸h))) (fun b a1 e m d=>(yq (fun e'=>by rw[e',hl]at d;cases d)).trans d) ⟨rfl,rfl,rfl⟩)
    (hgv.1 _ _ _ hq (fun b h=>by have:=H b h;omega) (by simp) (fun b h=>yq (by have:=H b h;omega)))
    (by rw[hD];exact(yq (by omega)).trans hd) (by rw[hD];exact B)
   rw[hD,j]at this;exact this
  ·have z:fi i s:=(fun b h=>R b ((hT b).2 (.inl h)));refine⟨some c,_,by have:=run_endLoop (P:=P) hl (by rw[j];simp);rw[j]at this;exact this,?_⟩
   have:=hstop c k i (s.putObj (D+1) (.loop { r .done (some c)with state:=.exhausted })) d5 hk (b5 i hT u B) (fun b h=>by simpa using z b h) (b6 _)
    (hIx _ _ _ _ _ hi z (by simp) (fun b h=>yq (fun e=>u (e▸h))) (fun b a1 e m d=>(yq (fun e'=>by rw[e',hl]at d;cases d)).trans d) ⟨rfl,rfl,rfl⟩)
    (hgv.1 _ _ _ hq (fun b h=>by have:=H b h;omega) (by simp) (fun b h=>yq (by have:=H b h;omega)))
    (by rw[hD];exact(yq (by omega)).trans hd) (by rw[hD];exact B)
   rw[hD,j]at this;exact this
 rcases b8 with ⟨gf,lb,rfl,he,hc⟩ | ⟨l',_,_,_,_,rfl,e1,e2⟩
 ·refine⟨D+1,[gj D],Z,{ target:=.fn (.func gf) lb,args:=#[.func (.yield (D+1)) #[] #[]] },Z,gf,
   #[.func (.yield (D+1)) #[] #[]]++lb,Z,?_,?_,fun _ _=>trivial,?_,fun h=>by simp[Fence.wide]at h,?_⟩
  ·rw[<-a0,j,<-hD];exact run_enterLoop_outer _ _ _ _ _
  ·simp only[resolve,hg];simp[go_sem]
  ·simp[invoke,go_sem,he]
  exact callsIn_wide.2 (hc.mono c2)

 obtain⟨g',e3,hh⟩:=hgv.2.1;cases hh
attribute [local go_sem] Oper.semAt_some
attribute [local go_sem] fK fL bH aR
structure Came (J:Nat->(Nat->Prop)->World->Prop) (S:Nat->Prop) (W:World) (k:Nat) (S1:Nat->Prop) (W1:World):Prop where
 j:J k S1 W1
 AF:fi S1 W1
 grows:Grows S S1 W
 chg:Chg S W W1
theorem Came.next{J:Nat->(Nat->Prop)->World->Prop}{S S1 S2:Nat->Prop}{W W1 W2:World}{k:Nat}(h:Came J S W k S1 W1){J':Nat->(Nat->Prop)->World->Prop}{k':Nat}(hg:Grows S1 S2 W1)(hi:fi S2 W2)(hc:Chg S1 W1 W2)(hj:J' k' S2 W2):Came J' S W k' S2 W2:=
 ⟨hj,hi,h.grows.trans hg h.chg.size,h.chg.trans hc (fun _ _ x=>x) (fun b a x=>(h.grows b x).resolve_right (by omega))⟩
theorem Came.alloc{J:Nat->(Nat->Prop)->World->Prop}{S S1:Nat->Prop}{W W1:World}{k:Nat}(h:Came J S W k S1 W1)(hJ:Loc (J k))(o:Obj):Came J S W k S1 (W1.alloc o)/\¬ S1 W1.heap.size:=
 ⟨⟨hJ S1 W1 _ h.j h.AF (by simp) (fun b a=>we _ _ _ (h.AF b a)) (fun b c e m a=>(we _ _ _ (aB a)).trans a) ⟨rfl,rfl,rfl⟩,h.AF.later (by simp),h.grows,h.chg.alloc o⟩,fun a=>vu _ (h.AF _ a)⟩
theorem zS(c:Nat){la:List R2}{pa:Option Addr}{ca:Nat}(ha:Nrm la)(yv:Value)(J Jx:Nat->(Nat->Prop)->World->Prop)(S:Nat->Prop)(W:World)(hJ:∀k,Loc (J k))(hS:fi S W)(hc:W.cell? ⟨c,0,none⟩=some (.slice pa la.length ca))(hv:Mv W (.slice pa la.length ca) la)(hbS:∀g,pa=some ⟨g,0,none⟩->¬ S g)(h0:J 0 S W)(hY:∀k (hk:k<(els la).length) q W1,fi q W1->Chg (fun b=>S b∨False) W W1->J k q W1 -> ig prog yv (enc1 (els la)[k]) W1 fun e I=>∃l,Grows q l W1/\fi l I/\Chg q W1 I/\((e=.returned (.bool true)/\J (k+1) l I)∨(e=.returned (.bool false)/\Jx (k+1) l I))):Calls prog 43 #[yv,.pointer (some ⟨c,0,none⟩)] W fun e W'=>∃v,e=.returned v/\((∃S',Came J S W (els la).length S' W')∨∃k S',0<k/\k<=(els la).length/\Came Jx S W k S' W'):=by
 obtain⟨na,z⟩:=ae la.length;have L:=aa (ab hv (ab z (ab ha hbS)));have HY:=aa hY;have a3:=dA ha;have HJ:=aa hJ;rw[z]at hc a3;clear hv ha hbS z hY hJ;refine(callsIn_wide (n:=0)).1 ?_;refine callsIn_of_wp func43 rfl trivial ?_ rfl;simp only[ntmps43,List.size_toArray,xa,vc,Nat.reduceAdd,Nat.reduceSub,Array.replicate_succ,Array.replicate_zero,List.push_toArray,List.append_toArray,IU,IV]
 gi_wp2
 gi_loopw [9] (fun iv wr=>∃(j:Nat) (q:Nat->Prop),j<=na/\iv=.int .i64 (j:Int)/\Came J S W (els (la.take j)).length q wr) (fun iv _=>na-(intOf iv).toNat)
 case atStart=>exact⟨0,S,zj _,rfl,⟨h0,hS,.refl _ _,.refl _ _⟩⟩
 obtain⟨j,q,hj,rfl,i⟩:=hrel;by_cases a4:j<na
 ·have A:j<la.length:=(by rw[L.2.1];exact a4);obtain⟨g,rfl,hg,Z,a1,a2⟩:=L.1.run A;have B:=L.2.2.2 g rfl;have Z:=(i.chg.cell (p:=⟨g,j*3,none⟩) hg B).trans Z;have a1:=(i.chg.cell (p:=⟨g,j*3+1,none⟩) hg B).trans a1;have a2:=(i.chg.cell (p:=⟨g,j*3+2,none⟩) hg B).trans a2;have s:∀d:Nat,(d:Int)<la[j].2-la[j].1->(els la)[(els (la.take j)).length+d]?=some (la[j].1+(d:Int)):=(fun d hd=>Fw A hd);have m:=L.2.2.1.2 la[j] (z8 _);have a:(els (la.take (j+1))).length=(els (la.take j)).length+(la[j].2-la[j].1).toNat:=(by rw[yi A,eH,pV,y6,iG]);obtain⟨r,hr⟩:=ae (la[j]);simp only[hr]at Z a1 s m a;obtain⟨f,t⟩:=r;obtain⟨y,M⟩:=ae ((els (la.take j)).length);simp only[M]at a2 i a s;have HA:=aa (ab s a);obtain⟨N,O⟩:=i.alloc (HJ.out y) (.cells #[.int .i64 f,.int .i64 t,.int .i64 (y:Int)] 81);have a6:0<=f:=m.1;have a7:f<t:=m.2.1;have a8:t<=65536:=m.2.2;have P:=z7 wr (.cells #[.int .i64 f,.int .i64 t,.int .i64 (y:Int)] 81);obtain⟨rb,Q⟩:=ae wr.heap.size;have H:=aa (ab N (ab O P));rw[Q]at H;clear M hr s a m N O P i hc
  gi_wp2
  gi_loopw [5] (fun iv w=>∃(d:Nat) (l:Nat->Prop),(d:Int)<=t-f/\iv=.int .i64 (f+(d:Int))/\Came J S W (y+d) l w/\¬ l rb/\w.heap[rb]?=some (.cells #[.int .i64 f,.int .i64 t,.int .i64 (y:Int)] 81)) (fun iv _=>(t-intOf iv).toNat)
  case atStart=>exact⟨0,q,by omega,by simp,H.1,H.2.1,H.2.2⟩
  clear Z a1 a2;obtain⟨d,l,hd,rfl,i,hn,hx⟩:=hrel;have x1:=aA hx 1;have a5:=aB hx;have u:=aa (ab i (ab hn hx));clear i hn hx;by_cases R:(d:Int)<t-f
  ·obtain⟨U,V⟩:=List.getElem?_eq_some_iff.1 (HA.1 d R);have E:=HY.out (y+d) U l wr u.1.AF (u.1.chg.mono fun _ _ x=>.inl x) u.1.j;rw[V]at E;have X:f+(d:Int)<t:=(by omega);clear U V
   gi_wp2_with ((with_reducible refine lG ?_ ?_ yv [.int .i64 (f+(d:Int))] ?_ ?_ ?_);rfl;rfl;rfl;rfl;refine E.mono ?_;clear E;rintro e I⟨S3,F,Y,o,(⟨rfl,G⟩ | ⟨rfl,G⟩)⟩ <;> refine⟨_,rfl,?_⟩)
   ·go_roundw
    case rel=>exact⟨d+1,S3,by omega,by congr 1 <;> omega,u.1.next F Y o G,fun h=>(F rb h).elim u.2.1 (fun h=>by omega),(o.block rb a5 u.2.1).trans u.2.2⟩
    simp[intOf];omega
   refine y8 (results_none rfl _ _ _) rfl ?_
   exact⟨_,rfl,.inr ⟨y+d+1,S3,by omega,by
    have:=(List.getElem?_eq_some_iff.1 (HA.1 d R)).1
    omega,u.1.next F Y o G⟩⟩
  have X:¬ f+(d:Int)<t:=by omega
  gi_wp2
  go_roundw
  case rel=>exact⟨j+1,l,by omega,by simp,by
   rw[HA.2];have e:(t-f).toNat=d:=(by omega);show Came J S W (y+(t-f).toNat) l wr;rw[e];exact u.1⟩
  simp[intOf];omega
 have e:els (la.take j)=els la:=(by rw[yu (by rw[L.2.1];omega)]);rw[e]at i;have H:=aa i;clear i e hc
 gi_wp2
 go_end0
 exact⟨_,rfl,.inl ⟨q,H.out⟩⟩
theorem iu(c:Nat){la:List R2}{va:Value}(ha:Nrm la)(W0:World)(hv0:Mv W0 va la):Gives prog (.func (.func 43) #[] #[.pointer (some ⟨c,0,none⟩)]) enc1 (els la) (fun b=>b=c∨va.ownBlock=some b) (fun _=>False) (fun _ W=>Cell W c va/\Mv W va la):=by
 obtain⟨l,m,rfl,_,_⟩:=hv0.slice;refine⟨fun k W d⟨s,t⟩ _ _ f=>⟨s.of (f c (.inl rfl)),ac.of t (fun b h=>f b (.inr h))⟩,⟨43,_,rfl⟩,fun _ x=>x.elim,?_⟩;rintro u w J y S W z A B p a⟨q,r⟩ E F;refine .inl ⟨43,_,rfl,enters_of func43 (by kernel_rfl) rfl,?_⟩;have G:=zS c (pa:=l) (ca:=m) ha (.func u #[] w) J y S W z B q.1 r (fun g H I=>a g I (.inr (by subst H;rfl))) E F;refine G.mono ?_
 have i:∀d,Chg S W d->Cell d c (.slice l la.length m)/\Mv d (.slice l la.length m) la:=fun d h =>
  ⟨q.of (h.block c (p c (.inl rfl)) (fun x=>a c x (.inl rfl))),ac.of r (fun b f=>h.block b (p b (.inr f)) (fun x=>a b x (.inr f)))⟩
 rintro e d⟨v,rfl,(⟨n,h⟩ | ⟨k,n,o,L,h⟩)⟩
 ·exact⟨v,n,rfl,h.grows,h.AF,h.chg.mono (fun _ _ x=>.inl x),.inl ⟨h.j,i _ h.chg⟩⟩
 exact⟨v,n,rfl,h.grows,h.AF,h.chg.mono (fun _ _ x=>.inl x),.inr ⟨k,o,L,h.j,i _ h.chg⟩⟩
end Go.Proofs.YtkchgbjoeggdbaaGreat.Kc
namespace Go.Proofs.YtkchgbjoeggdbaaGreat
open Go.Proofs.Tryz
open Go Go.RowKit Go.Shelf Go.Proofs
attribute [local go_sem] Oper.semAt_some
attribute [local go_sem] fK fL bH aR
theorem EF{l:List R2}{P:Int->Bool}{xs:List Int}(hl:Nrm l)(hP:Is l P)(hs:xs.Pairwise (·<·))(h:∀x,P x=true↔x∈xs):els l=xs:=
 xN (xO hl) hs (fun x=>by rw[pW,hP x,h x])
abbrev L3:List R2:=[(1,3),(5,6)]
def p3(x:Int):Bool:=decide (x=1∨x=2∨x=5)
structure Bh (W:World) (v:Value) (mb nb g D:Nat) (x:World):Prop where
 mv:Mv x v L3
 kb:x.heap[mb]?=some (.cells #[v] 29)
 kn:x.cell? ⟨nb,0,none⟩=some (.int .i64 3)
 r0:x.cell? ⟨g,0,none⟩=some (.int .i64 1)
 r1:x.cell? ⟨g,1,none⟩=some (.int .i64 3)
 kd:x.heap[D]?=some (.deferred (some []))
 bel:Below W.heap.size W x
theorem He(f t c i:Int)(ib:Nat)(W:World)(h:W.cell? ⟨ib,0,none⟩=some (.int .i64 i)):Calls prog 66 #[.agg #[.int .i64 f,.int .i64 t,.int .i64 c],.pointer (some ⟨ib,0,none⟩)] W fun e a=>e=.returned (.bool (decide (f<=i)))/\Below W.heap.size W a:=by
 have b:ib<W.heap.size:=xh W ⟨ib,0,none⟩ h;go_enter func66,ntmps66
 go_wp2
 go_ret;exact⟨rfl,aD W _⟩
theorem IH{l:List R2}{v:Value}{W:World}(hl:Nrm l)(hv:Mv W v l)(i:Int)(b:Bool)(hbi:b=true↔mem l i):Calls prog 26 #[.agg #[v],.int .i64 i] W fun e y=>e=.returned (.bool b)/\Below W.heap.size W y:=by
 obtain⟨t,g⟩:=Hh W v i
 have z:=rL (D:=W.heap.size+2) (W0:=(W.alloc (.cells #[v] 29)).alloc (.cells #[.int .i64 i] 3)) (W:=(W.alloc (.cells #[v] 29)).alloc (.cells #[.int .i64 i] 3)) (fv:=.func (.func 66) #[] #[.pointer (some ⟨W.heap.size+1,0,none⟩)]) (q:=fun j=>decide ((l.getD j (0,0)).1<=i)) hl (hv.later t) (zg _ _) (by simp)
  ⟨66,_,rfl,by intro a w;rfl,fun w j o d=>by
   have:=He l[j].1 l[j].2 ((els (l.take j)).length:Int) i (W.heap.size+1) w (aA ((d.block _ (by omega)).trans g) 0)
   show Calls prog 66 _ w fun e y=>e=.returned (.bool (decide ((l.getD j (0,0)).1<=i)))/\_
   rw[zv,z6 o];exact this⟩ (fun j k u A h=>by
   have h:decide ((l.getD k (0,0)).1<=i)=true:=h;show decide ((l.getD j (0,0)).1<=i)=true;rw[zv,z6 A]at h;rw[zv,z6 (by omega)]
   have:=nZ hl u A
   have h:l[k].1<=i:=wf h;exact yy (by show l[j].1<=i;omega))
 have f:=fun m(x:m<=l.length) (s:∀j,j<l.length->(j<m↔decide ((l.getD j (0,0)).1<=i)=true))=>GB (i:=i) hl x (fun j o=>by
   have:=s j o
   rw[zv,z6 o,xz]at this;exact this)
 have B:∀{n:World},Below ((W.alloc (.cells #[v] 29)).alloc (.cells #[.int .i64 i] 3)).heap.size ((W.alloc (.cells #[v] 29)).alloc (.cells #[.int .i64 i] 3)) n->n.cell? ⟨W.heap.size+1,0,none⟩=some (.int .i64 i)/\W.heap.size+1<n.heap.size/\Below W.heap.size W n:=(fun d=>⟨aA (lU d g) 0,aB (lU d g),aC t d⟩);obtain⟨p,F,rfl,_,_⟩:=hv.slice;clear hv g t hl;go_enter func26,ntmps26;go_upto_region 1 with fail
 go_wp2_with (first|(go_at_call 28;refine z.mono ?_;rintro e n⟨m,x,rfl,s,d⟩;have f:=f m x s;clear s z;generalize je l m=r at f ⊢;obtain⟨g,G,c⟩:=B d;clear B d;rw[<-hbi]at f;have E:=aa f;clear f hbi))
 ·go_ret;exact⟨aH (C5 (by rw[<-E.out];exact⟨fun h=>⟨by first|assumption|simpa using ‹_›,h⟩,fun h=>h.2⟩)),c.alloc c.size _⟩
 go_ret;refine⟨aH ?_,c.alloc c.size _⟩;cases b with
 | false=>rfl
 | true=>have:=(E.2 rfl).1;omega
variable{W:World}{va:Value}{P:Int->Bool}
theorem Hk(ha:Vm W va P)(i:Int):Calls prog 26 #[.agg #[va],.int .i64 i] W fun e a=>e=.returned (.bool (P i))/\Below W.heap.size W a:=by
 obtain⟨la,b,c,d⟩:=ha;exact IH c b i (P i) (d i).symm
