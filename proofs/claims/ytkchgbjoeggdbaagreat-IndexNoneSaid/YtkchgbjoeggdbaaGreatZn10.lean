import Derived.Deep.RegionLaw
import Derived.Deep.CutRange
import Derived.Test.YtkchgbjoeggdbaaGreatZn9
set_option maxHeartbeats 2000000
set_option maxRecDepth 100000
namespace Go.Proofs.YtkchgbjoeggdbaaGreat.Co.S
open Go.Proofs.Tryz
open Go Go.RowKit Go.Shelf Go.Proofs Go.Proofs.YtkchgbjoeggdbaaGreat Go.Proofs.YtkchgbjoeggdbaaGreat.Co
variable{M:Nat}
attribute [local go_sem] Cp B6
def Bx(ty:TypeId):Bool:=ty==170 || ty==32 || ty==105 || ty==3 || ty==125 || ty==159 || ty==161 || ty==74 || ty==40 || ty==60 || ty==66 || ty==173 || ty==45 || ty==90
def Ty(W:World)(mb:Nat):Prop:=∃cs ty,W.heap[mb]?=some (.cells cs ty)/\Bx ty=true
theorem Ty.of{W W':World}{mb:Nat}(h:Ty W mb)(hb:W'.heap[mb]?=W.heap[mb]?):Ty W' mb:=by
 obtain⟨cs,ty,a,b⟩:=h;exact⟨cs,ty,hb.trans a,b⟩
theorem Ty.set{W:World}{mb:Nat}(h:Ty W mb)(j:Nat)(v:Value):Ty (W.setCell ⟨mb,j,none⟩ v) mb:=by
 obtain⟨cs,ty,a,b⟩:=h;exact⟨_,ty,y7 W mb j cs ty v a,b⟩
structure Mp (D:Nat) (W0:World) (cv:Value) (key:K M->Int) (mb:Nat) (L:List (K M×Int)) (W:World):Prop where
 dm:D<=mb
 c0:W.cell? ⟨mb,2,none⟩=some cv
 rt:∃t p,W.cell? ⟨mb,3,none⟩=some (.pointer p)/\Tr W (mb+1) t p/\t.az=L
 fz:∀j,W.frozen? ⟨mb,j,none⟩=false
 srt:Srt key L
 bel:Below D W0 W
 ty:Ty W mb
theorem Mp.lt{D:Nat}{W0:World}{cv:Value}{key:K M->Int}{mb:Nat}{L:List (K M×Int)}{W:World}(h:Mp D W0 cv key mb L W):mb<W.heap.size:=xh W ⟨mb,2,none⟩ h.c0
theorem Mp.later{D:Nat}{W0:World}{cv:Value}{key:K M->Int}{mb:Nat}{L:List (K M×Int)}{W W':World}(h:Mp D W0 cv key mb L W)(hb:Below W.heap.size W W'):Mp D W0 cv key mb L W':=by
 have a:=hb.block mb h.lt;obtain⟨t,p,b,c,d⟩:=h.rt;exact⟨h.dm,(ze (w:=W) a).trans h.c0,⟨t,p,(ze (w:=W) a).trans b,c.later hb,d⟩,fun j=>(wq (w:=W) a).trans (h.fz j),h.srt,h.bel.trans (hb.mono (by have:=h.lt;have:=h.dm;omega)),h.ty.of a⟩
theorem pM(g:Nat)(lb:Array Value)(W:World):Calls prog 158 #[(.func (.func g) #[] lb)] W fun e a =>
  e=.returned (.pointer (some ⟨W.heap.size,0,none⟩))/\a.cell? ⟨W.heap.size,0,none⟩=some (.func (.func g) #[] lb)/\a.cell? ⟨W.heap.size,1,none⟩=some (.pointer none)/\Below W.heap.size W a:=by
 go_enter func158,ntmps158
 go_wp2
 go_ret;have b:=z7 W (.cells #[(.func (.func g) #[] lb),.pointer none] 166);exact⟨rfl,aA b 0,aA b 1,aD W _⟩
structure Chm (mb:Nat) (W W':World):Prop where
 chg:Chg (fun b=>b=mb) W W'
 keep:∀j,j≠2->j≠3->W'.cell? ⟨mb,j,none⟩=W.cell? ⟨mb,j,none⟩
theorem Chm.trans{mb:Nat}{A B C:World}(h:Chm mb A B)(k:Chm mb B C):Chm mb A C:=⟨h.chg.trans k.chg (fun _ _ x=>x) (fun _ _ x=>x),fun j a b=>(k.keep j a b).trans (h.keep j a b)⟩
theorem Chm.of_below{mb:Nat}{A B:World}(hlt:mb<A.heap.size)(h:Below A.heap.size A B):Chm mb A B:=⟨Chg.of_below h,fun _ _ _=>ze (w:=A) (h.block mb hlt)⟩
theorem eY(w:World):CallsD prog 185 #[] .returning w fun e a b=>e=.returned (.tuple #[])/\a=.returning/\b=w:=by
 refine callsD_of_wpS func185 rfl fun c cs d=>?_
 apply wpS_region;cases c
 simp_all [wpOpsS,go_sem,recoverD,ntmps185,bodyPostS,results,results185]
theorem rA(w:World):CallsD prog 188 #[] .returning w fun e a b=>e=.returned (.tuple #[])/\a=.returning/\b=w:=by
 refine callsD_of_wpS func188 rfl fun c cs d=>?_
 apply wpS_region;cases c
 simp_all [wpOpsS,go_sem,recoverD,ntmps188,bodyPostS,results,results188]
theorem eZ(w:World):CallsD prog 183 #[] .returning w fun e a b=>e=.returned (.tuple #[])/\a=.returning/\b=w:=by
 refine callsD_of_wpS func183 rfl fun c cs d=>?_
 apply wpS_region;cases c
 simp_all [wpOpsS,go_sem,recoverD,ntmps183,bodyPostS,results,results183]
def Laid(mb:Nat)(L:List (K M×Int))(W W':World):Prop:=∃t p,W'.cell? ⟨mb,3,none⟩=some (.pointer p)/\Tr W' (mb+1) t p/\t.az=L/\Chm mb W W'/\Ty W' mb
theorem kP{mb:Nat}{L:List (K M×Int)}{W x:World}{t:T (K M) Int}{p q:Option Addr}(hty:Ty W mb)(hb:Below W.heap.size W x)(hc:x.cell? ⟨mb,3,none⟩=some (.pointer q))(ht:Tr x (mb+1) t p)(hL:t.az=L):Laid mb L W (x.setCell ⟨mb,3,none⟩ (.pointer p)):=by
 have a:mb<W.heap.size:=(by obtain⟨_,_,c,_⟩:=hty;exact aB c);refine⟨t,p,wi _ _ _ hc,Tr.of (fun b c _=>ua _ _ _ b (by intro e;simp at e;omega)) ht,hL,⟨(Chg.of_below (S:=fun b=>b=mb) hb).setCell (fun _=>rfl) _,fun j _ d=>?_⟩,(hty.of (hb.block mb a)).set 3 _⟩;rw[xm _ _ _ _ (fun e=>d (by cases e;rfl))];exact ze (w:=W) (hb.block mb a)
theorem Laid.mp{D:Nat}{W0:World}{cv:Value}{key:K M->Int}{mb:Nat}{L L':List (K M×Int)}{W W':World}(h:Mp D W0 cv key mb L W)(hl:Laid mb L' W W')(hs:Srt key L')(hf:∀j,W'.frozen? ⟨mb,j,none⟩=false)(h0:W'.cell? ⟨mb,2,none⟩=some cv):Mp D W0 cv key mb L' W':=by
 obtain⟨t,p,a,c,d,f,g⟩:=hl;refine⟨h.dm,h0,⟨t,p,a,c,d⟩,hf,hs,h.bel.trans (f.chg.below (by have:=h.lt;have:=h.dm;omega) (fun b i e=>by have:=h.dm;omega)),g⟩
theorem pN{D:Nat}{W0:World}{cv:Value}{key:K M->Int}(hc:Cmp D W0 cv key)(mb:Nat)(L:List (K M×Int))(k:K M)(v:Int)(W:World)(hL:L.length+1<=1000000)(h:Mp D W0 cv key mb L W):Calls prog 155 #[.pointer (some ⟨mb,2,none⟩),.string (k).1,.int .i64 v] W fun e S=>e=.returned (.bool (ak key k L).isNone)/\Mp D W0 cv key mb (bn key k v L) S/\Chm mb W S:=by
 obtain⟨g,lb,rfl,r,U⟩:=id hc;have b:=h.lt;obtain⟨t,p,c1,V,s⟩:=h.rt;have c0:=h.c0;have fz:=h.fz 3;have FZ:=aa h.fz;have x:=aa h.ty;have hs:t.size=L.length:=aZ s;have cn:=ax t p (mb+1) W V;have y:Srt key t.az:=s▸h.srt;have X:=(fun q=>eV hc (mb+1) (by have:=h.dm;omega) k v t p (W.drewN q) y (by omega) b (h.bel.trans ((aF W q).mono (by have:=h.dm;omega))) (V.drewN q));rw[s]at X;go_enter_defers func155,ntmps155;go_upto_region 5 with (go_at_call 186;(with_reducible refine cn.mono ?_);rintro e x1⟨rfl,a0⟩;subst x1);have i:=enters_of func187 (by kernel_rfl) rfl
 go_cut []from 22 to 35 (fun z=>Hid (Laid mb (bn key k v L) W z/\(∀j,z.frozen? ⟨mb,j,none⟩=false)/\z.cell? ⟨mb,2,none⟩=some (.func (.func g) #[] lb)))
 case first =>
  refine qZ ?_
  go_region_law (refine bM i [.pointer p,(.func (.func g) #[] lb),.string (k).1,.int .i64 v] (by simp[Act.eval]) ?_;refine(X _).mono ?_;rintro e x2⟨A,Y,rfl,B,E,F⟩;have c:=aC (aF W _) F;have G:=(ze (w:=W) (c.block mb b)).trans c1;have H:=(ze (w:=W) (c.block mb b)).trans c0;have a1:=(wq (w:=W) (c.block mb b)).trans fz;have I:=aa (fun j=>(wq (a:=⟨mb,j,none⟩) (w:=W) (c.block mb b)).trans (FZ.out j));have HL:=aa (kP x.out c G B E);refine⟨_,rfl,?_⟩)
  all_goals (go_wp2_with fail;go_meet;exact aa ⟨HL.out,fun j=>by rw[ub];exact I.out j,by rw[xm _ _ _ _ (by simp)];exact H⟩)
 obtain⟨l,J,N⟩:=hcut.out;have m:=l.mp h h.srt.ins J N;obtain⟨A,Y,d1,d2,d3,Z,_⟩:=l;have d:=ax A Y (mb+1) wc d2;have O:A.size=L.length+(if (ak key k L).isSome then 0 else 1):=(by rw[aZ d3,bY h.srt]);rw[O]at d;have n:=aa (ab m Z);clear m Z d2 hcut;cases o:ak key k L with
 | none =>
  rw[o]at d;go_wp2_with (go_at_call 186;refine d.mono ?_;rintro e P⟨rfl,Q⟩;subst P);refine leaves_cons (f:=185) (args:=#[]) (by simp) (by simp[go_sem]) ?_;refine(eY _).mono ?_;rintro e u' R⟨rfl,rfl,rfl⟩;exact⟨_,results_tmp rfl _ _ _,by simp[o];try omega,n.1,n.2⟩
 | some u =>
  rw[o]at d;go_wp2_with (go_at_call 186;refine d.mono ?_;rintro e P⟨rfl,Q⟩;subst P);refine leaves_cons (f:=185) (args:=#[]) (by simp) (by simp[go_sem]) ?_;refine(eY _).mono ?_;rintro e u' R⟨rfl,rfl,rfl⟩;exact⟨_,results_tmp rfl _ _ _,by simp[o];try omega,n.1,n.2⟩
variable{M:Nat}
attribute [local go_sem] Cp B6
theorem FV{D:Nat}{W0:World}{cv:Value}{key:K M->Int}(mb:Nat)(L:List (K M×Int))(hcc:L=[]∨Cmp D W0 cv key)(k:K M)(W:World)(hL:L.length<=1000000)(h:Mp D W0 cv key mb L W):Calls prog 156 #[.pointer (some ⟨mb,2,none⟩),.string (k).1] W fun e S=>e=.returned (.bool (ak key k L).isSome)/\Mp D W0 cv key mb (gg key k L) S/\Chm mb W S:=by
 have c:=h.lt;obtain⟨t,p,c1,U,n⟩:=h.rt;have c0:=h.c0;have fz:=h.fz 3;have FZ:=aa h.fz;have v:=aa h.ty;have hs:t.size=L.length:=aZ n;have cn:=ax t p (mb+1) W U;have x:Srt key t.az:=n▸h.srt;have y:t=.nil∨Cmp D W0 cv key:=hcc.imp (fun e=>T.pz (n.trans e)) id;have V:=(fun q=>fJ (mb+1) (by have:=h.dm;omega) k t p (W.drewN q) y x (by omega) c (h.bel.trans ((aF W q).mono (by have:=h.dm;omega))) (U.drewN q));rw[n]at V;go_enter_defers func156,ntmps156;go_upto_region 5 with (go_at_call 186;(with_reducible refine cn.mono ?_);rintro e x1⟨rfl,a0⟩;subst x1);have i:=enters_of func189 (by kernel_rfl) rfl
 go_cut []from 13 to 25 (fun z=>Hid (Laid mb (gg key k L) W z/\(∀j,z.frozen? ⟨mb,j,none⟩=false)/\z.cell? ⟨mb,2,none⟩=some cv))
 case first =>
  refine qZ ?_
  go_region_law (refine bM i [.pointer p,cv,.string (k).1] (by simp[Act.eval]) ?_;refine(V _).mono ?_;rintro e x2⟨o,X,rfl,A,B,E⟩;have d:=aC (aF W _) E;have F:=(ze (w:=W) (d.block mb c)).trans c1;have G:=(ze (w:=W) (d.block mb c)).trans c0;have a1:=(wq (w:=W) (d.block mb c)).trans fz;have H:=aa (fun j=>(wq (a:=⟨mb,j,none⟩) (w:=W) (d.block mb c)).trans (FZ.out j));have HL:=aa (kP v.out d F A B);refine⟨_,rfl,?_⟩)
  all_goals (go_wp2_with fail;go_meet;exact aa ⟨HL.out,fun j=>by rw[ub];exact H.out j,by rw[xm _ _ _ _ (by simp)];exact G⟩)
 obtain⟨l,I,J⟩:=hcut.out;have m:=l.mp h h.srt.del I J;obtain⟨o,X,d1,d2,d3,Y,_⟩:=l;have g:=ax o X (mb+1) wc d2;have b:o.size+(if (ak key k L).isSome then 1 else 0)=L.length:=(by rw[aZ d3,eB]);have r:=aa (ab m Y);obtain⟨Z,N⟩:=ae o.size;rw[N]at g b;obtain⟨zl,O⟩:=ae L.length;rw[O]at b ⊢;clear m Y d2 hcut;cases s:ak key k L with
 | none =>
  rw[s]at b;obtain rfl:Z=zl:=(by simpa using b);go_wp2_with (go_at_call 186;refine g.mono ?_;rintro e P⟨rfl,Q⟩;subst P);refine leaves_cons (f:=188) (args:=#[]) (by simp) (by simp[go_sem]) ?_;refine(rA _).mono ?_;rintro e u' R⟨rfl,rfl,rfl⟩;exact⟨_,results_tmp rfl _ _ _,by simp[s],r.1,r.2⟩
 | some u =>
  rw[s]at b;obtain rfl:zl=Z+1:=(by simp at b;omega);go_wp2_with (go_at_call 186;refine g.mono ?_;rintro e P⟨rfl,Q⟩;subst P);refine leaves_cons (f:=188) (args:=#[]) (by simp) (by simp[go_sem]) ?_;refine(rA _).mono ?_;rintro e u' R⟨rfl,rfl,rfl⟩;exact⟨_,results_tmp rfl _ _ _,by simp[s];try omega,r.1,r.2⟩
theorem lI{D:Nat}{W0:World}{cv:Value}{key:K M->Int}(mb:Nat)(L:List (K M×Int))(W:World)(h:Mp D W0 cv key mb L W):Calls prog 190 #[.pointer (some ⟨mb,2,none⟩)] W fun e a=>a=W/\∃t p,e=.returned (.pointer p)/\Tr W (mb+1) t p/\t.az=L:=by
 obtain⟨t,p,c1,b,c⟩:=h.rt;go_enter func190,ntmps190
 go_wp2
 go_ret;exact⟨rfl,t,p,rfl,b,c⟩
theorem Hg{D:Nat}{W0:World}{cv:Value}{key:K M->Int}(mb:Nat)(L:List (K M×Int))(W:World)(h:Mp D W0 cv key mb L W):Calls prog 157 #[.pointer (some ⟨mb,2,none⟩)] W fun e d=>e=.returned (.int .i64 (L.length:Int))/\d=W:=by
 have f:=lI mb L W h;go_enter func157,ntmps157
 go_wp2_with (first|(go_at_call 190;refine f.mono ?_;rintro e a⟨b,t,p,rfl,c,g⟩;subst a;have cn:=ax t p (mb+1) W c;rw[aZ g]at cn)|(go_at_call 186;refine cn.mono ?_;rintro e a⟨rfl,b⟩;subst a))
 go_ret;exact⟨rfl,rfl⟩
theorem Has.undrew{W:World}{B:Nat}:∀{o:Option Int} {q:Option Addr},Has M W.drew B o q->Has M W B o q
 | none,_,h=>h
 | some _,_,⟨b,a,n,lp,rp,h1,h2,h3⟩=>⟨b,a,n,lp,rp,h1,h2,⟨h3.c0,h3.c1,h3.c2,h3.c3,h3.c4⟩⟩
theorem jD{D:Nat}{W0:World}{cv:Value}{key:K M->Int}(mb:Nat)(L:List (K M×Int))(hcc:L=[]∨Cmp D W0 cv key)(k:K M)(W:World)(hL:L.length<=1000000)(h:Mp D W0 cv key mb L W):Calls prog 184 #[.pointer (some ⟨mb,2,none⟩),.string (k).1] W fun e f=>(∃q,f=W.drewN q)/\∃q,e=.returned (.tuple #[.pointer q,.int .i64 (below key k L:Int)])/\Has M W (mb+1) (ak key k L) q:=by
 have b:=h.lt;obtain⟨t,p,c1,g,a⟩:=h.rt;have c0:=h.c0;have c:Srt key t.az:=a▸h.srt;have d:t=.nil∨Cmp D W0 cv key:=hcc.imp (fun e=>T.pz (a.trans e)) id;have fn:=nR (mb+1) (by have:=h.dm;omega) k t p W.drew d c (by have:=aZ a;omega) b (h.bel.trans ((zg _ W).drew.mono (by have:=h.dm;omega))) g.drew;rw[a]at fn;go_enter func184,ntmps184;go_wp2_with fail
 go_region_held3 (fun w=>w.cell? ⟨mb,2,none⟩=some (cv)/\w.cell? ⟨mb,3,none⟩=some (.pointer p)) (first|exact⟨c0,c1⟩) (first|(go_at_call 202;(with_reducible refine fn.mono ?_);rintro e j⟨⟨q,rfl⟩,r,rfl,i⟩))
 go_wp2_with fail;go_ret2;exact⟨⟨_,rfl⟩,r,rfl,i.undrew⟩
def Ae:Option Int->Value
 | none=>(.int .i64 0)
 | some u=>(.int .i64 u)
theorem kQ{D:Nat}{W0:World}{cv:Value}{key:K M->Int}(mb:Nat)(L:List (K M×Int))(hcc:L=[]∨Cmp D W0 cv key)(k:K M)(W:World)(hL:L.length<=1000000)(h:Mp D W0 cv key mb L W):Calls prog 154 #[.pointer (some ⟨mb,2,none⟩),.string (k).1] W fun e o=>e=.returned (.tuple #[Ae (ak key k L),.bool (ak key k L).isSome])/\Below W.heap.size W o:=by
 have fn:=jD mb L hcc k W hL h;go_enter_defers func154,ntmps154;cases l:ak key k L with
 | none =>
  rw[l]at fn;go_wp2_with (go_at_call 184;refine fn.mono ?_;rintro e d⟨⟨q,c⟩,r,rfl,g⟩;have i:Below W.heap.size W d:=c▸aF W q;clear c;obtain rfl:r=none:=g);refine leaves_cons (f:=183) (args:=#[]) (by simp) (by simp[go_sem]) ?_;refine(eZ _).mono ?_;rintro e p j⟨rfl,rfl,rfl⟩;exact⟨_,results_tmp2 rfl _ _ _,rfl,aC i (aD _ _)⟩
 | some u =>
  rw[l]at fn;go_wp2_with (go_at_call 184;refine fn.mono ?_;rintro e d⟨⟨q,c⟩,r,rfl,g⟩;subst d;obtain⟨b,a,n,s,t,rfl,_,m⟩:=g;have c1:=(m.later (aF W q)).c1;clear m);refine leaves_cons (f:=183) (args:=#[]) (by simp) (by simp[go_sem]) ?_;refine(eZ _).mono ?_;rintro e p j⟨rfl,rfl,rfl⟩;exact⟨_,results_tmp2 rfl _ _ _,rfl,aF W q⟩
variable{M:Nat}
theorem E3(a b:ByteArray)(w:World):Calls prog 77 #[.string a,.string b] w fun e c=>e=.returned (.int .i64 (Lib.compareBytes a.data.toList b.data.toList))/\c=w:=by
 go_enter func77,ntmps77
 go_wp2
 rw[run_callFunc_extern func108 (by kernel_rfl) (by kernel_rfl) (by kernel_rfl) (e:=Extern.BytealgCompare.compare) (by kernel_rfl),Lib.run_compareString];simp only[Result.andThen];rw[Oper.upon_value]
 go_wp2
 go_ret;exact⟨rfl,rfl⟩
theorem lJ(a b:ByteArray)(w:World):Calls prog 35 #[.string a,.string b] w fun e c=>e=.returned (.int .i64 (Lib.compareBytes a.data.toList b.data.toList))/\c=w:=by
 have h:=E3 a b w;go_enter func35,ntmps35;go_wp2_with (go_at_call 77;refine h.mono ?_;rintro e c⟨rfl,d⟩;subst d);go_ret;exact⟨rfl,rfl⟩
abbrev pq:Value:=.func (.func 35) #[] #[]
theorem BN(D:Nat)(W0:World):Cmp (M:=M) D W0 pq keyOf:=
 ⟨35,#[],rfl,enters_of func35 (by kernel_rfl) rfl,fun w a b _=>(lJ a.1 b.1 w).mono (by
  rintro e c⟨rfl,rfl⟩;rw[pH];exact⟨rfl,0,rfl⟩)⟩
structure Dm (W0:World) (mb:Nat) (L:List (K M×Int)) (W:World):Prop where
 mp:∃cv,Mp 0 W0 cv keyOf mb L W/\(L=[]∨cv=pq)
 pos:∀p∈L,1<=p.2/\p.2<=1000000
 len:L.length<=999999
theorem Dm.lt{W0 W:World}{mb:Nat}{L:List (K M×Int)}(h:Dm W0 mb L W):mb<W.heap.size:=by obtain⟨cv,a,_⟩:=h.mp;exact a.lt
theorem Dm.later{W0 W W':World}{mb:Nat}{L:List (K M×Int)}(h:Dm W0 mb L W)(hb:Below W.heap.size W W'):Dm W0 mb L W':=by
 obtain⟨cv,a,b⟩:=h.mp;exact⟨⟨cv,a.later hb,b⟩,h.pos,h.len⟩
theorem Dm.bel{W0 W:World}{mb:Nat}{L:List (K M×Int)}(h:Dm W0 mb L W):Below 0 W0 W:=by obtain⟨cv,a,_⟩:=h.mp;exact a.bel
def tm(s:K M)(L:List (K M×Int)):Int:=(ak keyOf s L).getD 0
def has(s:K M)(L:List (K M×Int)):Bool:=(ak keyOf s L).isSome
theorem Gv(s:K M)(L:List (K M×Int)):Ae (ak keyOf s L)=.int .i64 (tm s L):=by
 unfold tm;cases ak keyOf s L <;> rfl
theorem pO{W0 W:World}{mb:Nat}{L:List (K M×Int)}(s:K M)(h:Dm W0 mb L W):Calls prog 154 #[.pointer (some ⟨mb,2,none⟩),.string s.1] W fun e a=>e=.returned (.tuple #[.int .i64 (tm s L),.bool (has s L)])/\Below W.heap.size W a:=by
 obtain⟨cv,b,c⟩:=h.mp
 have:=kQ mb L (c.imp id (fun e=>e▸BN 0 W0)) s W (by have:=h.len;omega) b
 rw[Gv]at this;exact this
theorem xI{W0 W:World}{mb:Nat}{L:List (K M×Int)}(h:Dm W0 mb L W):Calls prog 157 #[.pointer (some ⟨mb,2,none⟩)] W fun e a=>e=.returned (.int .i64 (L.length:Int))/\a=W:=by
 obtain⟨cv,b,c⟩:=h.mp;exact Hg mb L W b
theorem rB{s:K M}{v:Int}:∀{L:List (K M×Int)},ak keyOf s L=some v->∃p∈L,p.2=v
 | [],h=>by simp[ak]at h
 | (a,w)::r,h=>by
  rw[ak]at h;split at h
  ·cases h;exact⟨(a,v),by simp,rfl⟩
  ·obtain⟨p,b,e⟩:=rB h;exact⟨p,by simp[b],e⟩
theorem Dm.xx{W0 W:World}{mb:Nat}{L:List (K M×Int)}(h:Dm W0 mb L W)(s:K M):0<=tm s L/\tm s L<=1000000/\(has s L=true↔1<=tm s L):=by
 unfold tm has;cases a:ak keyOf s L with
 | none=>simp
 | some v =>
  obtain⟨p,b,e⟩:=rB a
  have:=h.pos p b
  rw[e]at this
  simp;omega
theorem E'{W0 W:World}{mb:Nat}{L:List (K M×Int)}(s:K M)(h:Dm W0 mb L W):Calls prog 156 #[.pointer (some ⟨mb,2,none⟩),.string s.1] W fun e a=>e=.returned (.bool (has s L))/\Dm W0 mb (gg keyOf s L) a/\Chm mb W a:=by
 obtain⟨cv,d,b⟩:=h.mp;refine(FV mb L (b.imp id (fun e=>e▸BN 0 W0)) s W (by have:=h.len;omega) d).mono ?_;rintro e a⟨rfl,m,c⟩;refine⟨rfl,⟨⟨cv,m,b.imp (fun e=>by rw[e];rfl) id⟩,fun p f=>h.pos p (nJ f),?_⟩,c⟩
 have:=eB (key:=keyOf) (k:=s) (L:=L)
 have:=h.len
 omega
theorem rC{s:K M}{v:Int}{Q:Int->Prop}(hv:Q v):∀{L:List (K M×Int)},(∀p∈L,Q p.2)->∀p∈bn keyOf s v L,Q p.2
 | [],_,p,b=>by rw[bn,zz]at b;rw[b];exact hv
 | (a,w)::r,h,p,b=>by
  rw[bn]at b;split at b
  ·rcases List.mem_cons.1 b with rfl|b
   ·exact hv
   ·exact h p b
  ·split at b
   ·rcases List.mem_cons.1 b with rfl|b
    ·exact h (a,w) (by simp)
    ·exact rC hv (fun p b=>h p (by simp[b])) p b
   ·rcases List.mem_cons.1 b with rfl|b
    ·exact hv
    ·exact h p (by simp[b])
theorem lK{W0 W:World}{mb:Nat}{L:List (K M×Int)}(s:K M)(v:Int)(hv:1<=v/\v<=1000000)(hl:L.length+1<=999999)(hm:Mp 0 W0 pq keyOf mb L W)(hpos:∀p∈L,1<=p.2/\p.2<=1000000):Calls prog 155 #[.pointer (some ⟨mb,2,none⟩),.string s.1,.int .i64 v] W fun e a=>e=.returned (.bool (!has s L))/\Dm W0 mb (bn keyOf s v L) a/\Chm mb W a:=by
 refine(pN (BN 0 W0) mb L s v W (by omega) hm).mono ?_;rintro e a⟨rfl,m,c⟩;refine⟨?_,⟨⟨pq,m,.inr rfl⟩,rC (Q:=fun v=>1<=v/\v<=1000000) hv hpos,?_⟩,c⟩
 ·unfold has;cases ak keyOf s L <;> rfl
 have:=bY (v:=v) (k:=s) hm.srt
 split at this <;> omega
variable{M:Nat}
theorem lL{P:Program}{w:World}{m:Mode}{ad:Addr}(f:Fn)(a b:Array Value):(store ad (.func f a b) m).run P w=stored P w ad (.func f a b) m:=run_store P w ad _ m rfl
attribute [local go_sem] lL
theorem eD(mb:Nat)(W:World):Calls prog 153 #[.pointer (some ⟨mb,2,none⟩)] W fun e a=>e=.returned (.pointer (some ⟨mb,2,none⟩))/\a=W:=by
 go_enter func153,ntmps153
 go_wp2
 go_ret;exact⟨rfl,rfl⟩
theorem zA{W0 W x1:World}{mb:Nat}{cv:Value}(h:Mp (M:=M) 0 W0 cv keyOf mb [] W)(hx:Below W.heap.size W x1):Mp (M:=M) 0 W0 pq keyOf mb [] ((x1.setCell ⟨mb,2,none⟩ pq).setCell ⟨mb,3,none⟩ (.pointer none))/\Chm mb W ((x1.setCell ⟨mb,2,none⟩ pq).setCell ⟨mb,3,none⟩ (.pointer none)):=by
 have a:=h.later hx;obtain⟨t,p,d1,d2,f⟩:=a.rt;have c0:=a.c0;refine⟨⟨zj _,?_,⟨.nil,none,?_,rfl,rfl⟩,fun j=>by rw[ub,ub];exact a.fz j,Srt.nil,?_,(a.ty.set 2 _).set 3 _⟩,?_,fun j c d=>?_⟩
 ·rw[xm _ _ _ _ (by simp)];exact wi _ _ _ c0
 ·refine wi (u:=.pointer p) _ _ _ ?_;rw[xm _ _ _ _ (by simp)];exact d1
 ·exact(a.bel.setCell (zj _) _).setCell (zj _) _
 ·exact((Chg.of_below (S:=fun b=>b=mb) hx).setCell (fun _=>rfl) _).setCell (fun _=>rfl) _
 rw[xm _ _ _ _ (fun e=>d (by cases e;rfl)),xm _ _ _ _ (fun e=>c (by cases e;rfl))];exact ze (w:=W) (hx.block mb h.lt)
theorem Fu{W0 W:World}{mb:Nat}(h:Mp (M:=M) 0 W0 pq keyOf mb [] W):Dm (M:=M) W0 mb [] W:=⟨⟨pq,h,.inr rfl⟩,fun p a=>by simp at a,by simp⟩
theorem cM{W0 W:World}{mb:Nat}{L:List (K M×Int)}(s:K M)(h:Dm W0 mb L W)(hl:L.length+1<=999999)(ht:tm s L+1<=1000000):Calls prog 127 #[.pointer (some ⟨mb,2,none⟩),.string s.1] W fun e b=>e=.returned (.bool (!has s L))/\Dm W0 mb (bn keyOf s (tm s L+1) L) b/\Chm mb W b:=by
 obtain⟨cv,l,A⟩:=h.mp;have n:=h.xx s;have c:=aa h.pos;have d:=xI h;have o:=h.lt;by_cases w:L=[]
 ·subst w;have O:=h.bel;obtain⟨hb,q⟩:=ae W.heap.size;have g:=pM 35 #[] W;rw[q]at g;have P:=h.lt;obtain⟨t,p,d1,d2,r⟩:=l.rt;have Q:=(fun k(u:Below W.heap.size W k)=>zA l u);have R:=(fun k(u:Below W.heap.size W k)=>l.later u);have e0:tm s ([]:List (K M×Int))=0:=rfl;have I:has s ([]:List (K M×Int))=false:=rfl;have B:∀y,Mp (M:=M) 0 W0 pq keyOf mb [] y->Calls prog 154 #[.pointer (some ⟨mb,2,none⟩),.string s.1] y fun e b=>e=.returned (.tuple #[.int .i64 0,.bool false])/\Below y.heap.size y b:=fun y m=>pO s (Fu m)
  rw[e0,I];clear n ht hl A c d1 d2 r e0 I;go_enter func127,ntmps127
  go_wp2_with (first|(go_at_call 157;refine d.mono ?_;rintro e b⟨rfl,S⟩;subst b)|(go_at_call 158;refine g.mono ?_;rintro e k⟨rfl,k0,k1,b1⟩;rw[<-q]at b1;obtain⟨E,U⟩:=Q k b1;have z:=R k b1;have y0:=z.c0;obtain⟨_,pp,y1,_,_⟩:=z.rt;have f0:=z.fz 2;have f1:=z.fz 3)|(go_at_call 154;refine(B _ E).mono ?_;rintro e F⟨rfl,b2⟩;have V:=E.later b2;have a:Calls prog 155 #[.pointer (some ⟨mb,2,none⟩),.string s.1,.int .i64 1] F fun e b=>e=.returned (.bool true)/\Dm W0 mb (bn keyOf s (0+1) []) b/\Chm mb F b:=lK (L:=[]) s 1 (by omega) (by simp) V (by simp))|(go_at_call 155;refine a.mono ?_;rintro e X⟨rfl,r,c3⟩))
  go_ret;exact⟨rfl,r,(U.trans (Chm.of_below E.lt b2)).trans c3⟩
 have G:cv=pq:=A.resolve_left w;subst G;have H:L.length≠0:=(fun e=>w (List.length_eq_zero_iff.1 e));obtain⟨J,v⟩:=ae L.length;rw[v]at d H;have Y:decide ((J:Int)=0)=false:=yp (by omega);have Z:((J:Int)==0)=false:=(by simp;omega);have i:=pO s h;obtain⟨N,f⟩:=ae (tm s L);obtain⟨hv,j⟩:=ae (has s L);have a:=(fun x(u:Below W.heap.size W x)=>lK s (tm s L+1) (by omega) hl (l.later u) c.out);rw[f,j]at i a ⊢;rw[f]at n ht;have a0:IntKind.i64.wrap (N+1)=N+1:=(by rw[IntKind.wrap_i64];omega);have HT:=aa f;have HH:=aa j;clear f j v w A l c;go_enter func127,ntmps127
 go_wp2_with (first|(go_at_call 157;refine d.mono ?_;rintro e b⟨rfl,S⟩;subst b)|(go_at_call 154;refine i.mono ?_;rintro e F⟨rfl,b2⟩)|(go_at_call 155;refine(a _ b2).mono ?_;rintro e X⟨rfl,r,c3⟩))
 go_ret;exact⟨rfl,r,(Chm.of_below o b2).trans c3⟩
variable{M:Nat}
def mr(s:K M)(L:List (K M×Int)):List (K M×Int):=if 1<tm s L then bn keyOf s (tm s L-1) L else gg keyOf s L
theorem pP(s:K M):tm s []=0:=rfl
theorem Iu{W0 W:World}{mb:Nat}{L:List (K M×Int)}(s:K M)(h:Dm W0 mb L W)(hl:L.length+1<=999999):Calls prog 126 #[.pointer (some ⟨mb,2,none⟩),.string s.1] W fun e k=>e=.returned (.bool (has s L))/\Dm W0 mb (mr s L) k/\Chm mb W k:=by
 obtain⟨cv,p,q⟩:=h.mp;have d:=h.xx s;have b:=aa h.pos;have a:=pO s h;have f:=eD mb W;have g:=h.lt;obtain⟨B,l⟩:=ae (has s L);unfold mr;by_cases j:1<tm s L
 ·have r:cv=pq:=q.resolve_left (fun e=>by rw[e,pP]at j;omega);subst r;have i:=(fun x(t:Below W.heap.size W x)=>lK s (tm s L-1) (by omega) hl (p.later t) b.out);rw[zw j];have m:has s L=true:=d.2.2.2 (by omega);obtain⟨n,c⟩:=ae (tm s L);rw[c]at a i d j ⊢;rw[m]at a ⊢;have w:IntKind.i64.wrap (n-1)=n-1:=(by rw[IntKind.wrap_i64];omega);have u:decide (1<n)=true:=yy j;clear c m l p q d b;go_enter func126,ntmps126
  go_wp2_with (first|(go_at_call 153;refine f.mono ?_;rintro e k⟨rfl,y⟩;subst k)|(go_at_call 154;refine a.mono ?_;rintro e z⟨rfl,b2⟩)|(go_at_call 155;refine(i _ b2).mono ?_;rintro e A⟨rfl,v,c3⟩))
  go_ret;exact⟨rfl,v,(Chm.of_below g b2).trans c3⟩
 rw[zu j];have o:=(fun x(t:Below W.heap.size W x)=>E' s (h.later t));obtain⟨n,c⟩:=ae (tm s L);rw[c]at a j;have u:decide (1<n)=false:=yp j;clear c l p q d b;go_enter func126,ntmps126
 go_wp2_with (first|(go_at_call 153;refine f.mono ?_;rintro e k⟨rfl,y⟩;subst k)|(go_at_call 154;refine a.mono ?_;rintro e z⟨rfl,b2⟩)|(go_at_call 156;refine(o _ b2).mono ?_;rintro e A⟨rfl,v,c3⟩))
 go_ret;exact⟨rfl,v,(Chm.of_below g b2).trans c3⟩
theorem GU{W0 W:World}{mb:Nat}{L:List (K M×Int)}(h:Dm W0 mb L W):Calls prog 219 #[.pointer (some ⟨mb,2,none⟩)] W fun e a=>e=.returned (.int .i64 (L.length:Int))/\a=W:=by
 have b:=xI h;have c:=eD mb W;go_enter func219,ntmps219
 go_wp2_with (first|(go_at_call 153;refine c.mono ?_;rintro e a⟨rfl,d⟩;subst a)|(go_at_call 157;refine b.mono ?_;rintro e a⟨rfl,d⟩;subst a))
 go_ret;exact⟨rfl,rfl⟩
end Go.Proofs.YtkchgbjoeggdbaaGreat.Co.S
namespace Go.Proofs.YtkchgbjoeggdbaaGreat.Co
open Go.Proofs.Tryz
open Go Go.Proofs
section
variable{M:Nat}
theorem kR{a b:K M}(h:keyOf a=keyOf b):a=b:=Subtype.ext (Er.1 h)
def Aj(l:List (K M)):Prop:=l.Pairwise (fun a b=>keyOf a<keyOf b)
abbrev keys(L:List (K M×Int)):List (K M):=L.map Prod.fst
theorem rD{L:List (K M×Int)}(h:Srt keyOf L):Aj (keys L):=by
 unfold Aj;rw[List.pairwise_map];exact h
namespace S
theorem xJ{s:K M}:∀{L:List (K M×Int)},has s L=true↔s∈keys L
 | []=>by simp[has,ak]
 | (a,w)::r=>by
  have b:=xJ (s:=s) (L:=r);unfold has at b ⊢;rw[ak];by_cases h:keyOf a=keyOf s
  ·rw[zw h,kR h];simp
  ·have c:s≠a:=(fun e=>h (by rw[e]));rw[zu h,b];simp[c]
theorem cG(s a:K M)(w:Int)(r:List (K M×Int)):tm s ((a,w)::r)=if a=s then w else tm s r:=by
 unfold tm;rw[ak];by_cases h:keyOf a=keyOf s
 ·rw[zw h,zw (kR h)];rfl
 have b:a≠s:=(fun e=>h (by rw[e]));rw[zu h,zu b]
theorem rE{s:K M}:∀{L:List (K M×Int)},(∀p∈L,keyOf s<keyOf p.1)->tm s L=0
 | [],_=>rfl
 | (a,w)::r,h=>by
  have b:keyOf s<keyOf a:=h (a,w) (by simp);rw[cG,zu (fun e=>by rw[e]at b;omega),rE (fun p c=>h p (by simp[c]))]
theorem uS(s:K M)(v:Int)(t:K M):∀{L:List (K M×Int)},Srt keyOf L->tm t (bn keyOf s v L)=if s=t then v else tm t L
 | [],_=>by rw[bn,cG,pP]
 | (a,w)::r,h=>by
  unfold Srt at h;rw[wk]at h;have g:=uS s v t h.2;rw[bn];by_cases d:keyOf s<keyOf a
  ·rw[zw d,cG]
  ·by_cases f:keyOf a<keyOf s
   ·rw[zu d,zw f,cG,g,cG];by_cases b:a=t
    ·have:¬ s=t:=(fun e=>by rw[<-b]at e;rw[e]at f;omega);rw[zw b,zu this,zw b]
    ·rw[zu b];by_cases c:s=t
     ·rw[zw c,zw c]
     ·rw[zu c,zu c,zu b]
   ·have i:a=s:=kR (by omega);subst i;rw[zu d,zu f,cG,cG];by_cases b:a=t
    ·rw[zw b,zw b]
    ·rw[zu b,zu b,zu b]
theorem Cd(s t:K M):∀{L:List (K M×Int)},Srt keyOf L->tm t (gg keyOf s L)=if s=t then 0 else tm t L
 | [],_=>by rw[gg,pP];split <;> rfl
 | (a,w)::r,h=>by
  unfold Srt at h;rw[wk]at h;have d:=Cd s t h.2;rw[gg];by_cases c:keyOf a=keyOf s
  ·have f:a=s:=kR c;subst f;rw[zw c,cG];by_cases b:a=t
   ·subst b;rw[zw rfl];exact rE (fun p g=>h.1 p g)
   ·rw[zu b,zu b]
  ·rw[zu c,cG,d,cG];by_cases b:a=t
   ·have:¬ s=t:=(fun e=>c (by rw[b,e]));rw[zw b,zu this,zw b]
   ·rw[zu b,zu b]
def cnt(s:K M)(l:List (K M)):Nat:=(l.filter (fun t=>decide (t=s))).length
def Cnt(l:List (K M))(L:List (K M×Int)):Prop:=∀s,tm s L=(cnt s l:Int)
theorem Dm.srt{W0 W:World}{mb:Nat}{L:List (K M×Int)}(h:Dm W0 mb L W):Srt keyOf L:=by obtain⟨cv,a,_⟩:=h.mp;exact a.srt
theorem EC(s:K M){L:List (K M×Int)}(h:Srt keyOf L):Srt keyOf (mr s L):=by
 unfold mr;split
 ·exact h.ins
 exact h.del
theorem xK(s t:K M){L:List (K M×Int)}(h:Srt keyOf L)(hp:0<=tm s L):tm t (mr s L)=if s=t then(if 1<=tm s L then tm s L-1 else 0)else tm t L:=by
 unfold mr;by_cases a:1<tm s L
 ·rw[zw a,uS s _ t h];by_cases e:s=t
  ·rw[zw e,zw e,zw (by omega)]
  rw[zu e,zu e]
 rw[zu a,Cd s t h];by_cases e:s=t
 ·rw[zw e,zw e];split <;> omega
 rw[zu e,zu e]
theorem rF(s:K M){L:List (K M×Int)}(h:Srt keyOf L):(mr s L).length<=L.length:=by
 unfold mr;split
 ·rename_i a
  have:=bY (v:=tm s L-1) (k:=s) h
  have b:(ak keyOf s L).isSome=true:=by
   unfold tm at a;cases c:ak keyOf s L with
   | none=>rw[c]at a;simp at a
   | some v=>rfl
  rw[zw b]at this;omega
 have:=eB (key:=keyOf) (k:=s) (L:=L)
 omega
theorem Dm.ty{W0 W:World}{mb:Nat}{L:List (K M×Int)}(h:Dm W0 mb L W):Ty W mb:=by obtain⟨cv,a,_⟩:=h.mp;exact a.ty
theorem Tr.lw{W W':World}{B:Nat}(hb:∀(b:Nat) (cs:Array Value),W.heap[b]?=some (Obj.cells cs 227)->W'.heap[b]?=W.heap[b]?):∀{t:T (K M) Int} {p:Option Addr},Tr W B t p->Tr W' B t p
 | .nil,_,h=>h
 | .nd _ _ _ _,_,⟨b,lp,rp,h1,h2,h3,h4,h5⟩=>⟨b,lp,rp,h1,h2,(hb b _ h3).trans h3,Tr.lw hb h4,Tr.lw hb h5⟩
end S
end
end Go.Proofs.YtkchgbjoeggdbaaGreat.Co
namespace Go.Proofs.YtkchgbjoeggdbaaGreat.Ix
open Go.Proofs.Tryz
open Go Go.RowKit Go.Shelf Go.Proofs Go.Proofs.YtkchgbjoeggdbaaGreat Go.Proofs.YtkchgbjoeggdbaaGreat.Co Go.Proofs.YtkchgbjoeggdbaaGreat.Co.S
variable{M:Nat}
attribute [local go_sem] pK pL
def Ty(W:World)(mb:Nat):Prop:=∃cs ty,W.heap[mb]?=some (.cells cs ty)/\ty=90
theorem Ty.of{W W':World}{mb:Nat}(h:Ty W mb)(hb:W'.heap[mb]?=W.heap[mb]?):Ty W' mb:=by
 obtain⟨cs,ty,a,b⟩:=h;exact⟨cs,ty,hb.trans a,b⟩
theorem Ty.set{W:World}{mb:Nat}(h:Ty W mb)(j:Nat)(v:Value):Ty (W.setCell ⟨mb,j,none⟩ v) mb:=by
 obtain⟨cs,ty,a,b⟩:=h;exact⟨_,ty,y7 W mb j cs ty v a,b⟩
structure Mp (Q:Nat->Prop) (W0:World) (cv:Value) (key:VX M->Int) (mb:Nat) (L:List (VX M×SV)) (W:World):Prop where
 dm:¬ Q mb
 c0:W.cell? ⟨mb,0,none⟩=some cv
 rt:∃t p,W.cell? ⟨mb,1,none⟩=some (.pointer p)/\Tr W Q t p/\t.az=L
 fz:∀j,W.frozen? ⟨mb,j,none⟩=false
 srt:Srt key L
 bel:Below 0 W0 W
 ty:Ty W mb
theorem Mp.lt{Q:Nat->Prop}{W0:World}{cv:Value}{key:VX M->Int}{mb:Nat}{L:List (VX M×SV)}{W:World}(h:Mp Q W0 cv key mb L W):mb<W.heap.size:=xh W ⟨mb,0,none⟩ h.c0
theorem Mp.later{Q:Nat->Prop}{W0:World}{cv:Value}{key:VX M->Int}{mb:Nat}{L:List (VX M×SV)}{W W':World}(h:Mp Q W0 cv key mb L W)(hb:Below W.heap.size W W'):Mp Q W0 cv key mb L W':=by
 have a:=hb.block mb h.lt;obtain⟨t,p,b,c,d⟩:=h.rt;exact⟨h.dm,(ze (w:=W) a).trans h.c0,⟨t,p,(ze (w:=W) a).trans b,c.later hb,d⟩,fun j=>(wq (w:=W) a).trans (h.fz j),h.srt,h.bel.trans (hb.mono (zj _)),h.ty.of a⟩
theorem pM(g:Nat)(lb:Array Value)(W:World):Calls prog 12 #[(.func (.func g) #[] lb)] W fun e a =>
  e=.returned (.pointer (some ⟨W.heap.size,0,none⟩))/\a.cell? ⟨W.heap.size,0,none⟩=some (.func (.func g) #[] lb)/\a.cell? ⟨W.heap.size,1,none⟩=some (.pointer none)/\Below W.heap.size W a/\a=W.alloc (.cells #[(.func (.func g) #[] lb),.pointer none] 90):=by
 go_enter func12,ntmps12
 go_wp2
 go_ret;have b:=z7 W (.cells #[(.func (.func g) #[] lb),.pointer none] 90);exact⟨rfl,aA b 0,aA b 1,aD W _,rfl⟩
structure Chm (mb:Nat) (W W':World):Prop where
 chg:Chg (fun b=>b=mb) W W'
 keep:∀j,j≠0->j≠1->W'.cell? ⟨mb,j,none⟩=W.cell? ⟨mb,j,none⟩
theorem Chm.trans{mb:Nat}{A B C:World}(h:Chm mb A B)(k:Chm mb B C):Chm mb A C:=⟨h.chg.trans k.chg (fun _ _ x=>x) (fun _ _ x=>x),fun j a b=>(k.keep j a b).trans (h.keep j a b)⟩
theorem Chm.of_below{mb:Nat}{A B:World}(hlt:mb<A.heap.size)(h:Below A.heap.size A B):Chm mb A B:=⟨Chg.of_below h,fun _ _ _=>ze (w:=A) (h.block mb hlt)⟩
theorem eY(w:World):CallsD prog 50 #[] .returning w fun e a b=>e=.returned (.tuple #[])/\a=.returning/\b=w:=by
 refine callsD_of_wpS func50 rfl fun c cs d=>?_
 apply wpS_region;cases c
 simp_all [wpOpsS,go_sem,recoverD,ntmps50,bodyPostS,results,results50]
theorem eZ(w:World):CallsD prog 48 #[] .returning w fun e a b=>e=.returned (.tuple #[])/\a=.returning/\b=w:=by
 refine callsD_of_wpS func48 rfl fun c cs d=>?_
 apply wpS_region;cases c
 simp_all [wpOpsS,go_sem,recoverD,ntmps48,bodyPostS,results,results48]
def Laid(Q:Nat->Prop)(mb:Nat)(L:List (VX M×SV))(W W':World):Prop:=∃t p,W'.cell? ⟨mb,1,none⟩=some (.pointer p)/\Tr W' Q t p/\t.az=L/\Chm mb W W'/\Ty W' mb
theorem kP{Q:Nat->Prop}{mb:Nat}(hq:¬ Q mb){L:List (VX M×SV)}{W x:World}{t:T (VX M) SV}{p q:Option Addr}(hty:Ty W mb)(hb:Below W.heap.size W x)(hc:x.cell? ⟨mb,1,none⟩=some (.pointer q))(ht:Tr x Q t p)(hL:t.az=L):Laid Q mb L W (x.setCell ⟨mb,1,none⟩ (.pointer p)):=by
 have a:mb<W.heap.size:=(by obtain⟨_,_,c,_⟩:=hty;exact aB c);refine⟨t,p,wi _ _ _ hc,Tr.of (fun b c _=>ua _ _ _ b (by intro e;simp at e;subst e;exact hq c)) ht,hL,⟨(Chg.of_below (S:=fun b=>b=mb) hb).setCell (fun _=>rfl) _,fun j _ d=>?_⟩,(hty.of (hb.block mb a)).set 1 _⟩;rw[xm _ _ _ _ (fun e=>d (by cases e;rfl))];exact ze (w:=W) (hb.block mb a)
theorem Laid.mp{Q:Nat->Prop}{W0:World}{cv:Value}{key:VX M->Int}{mb:Nat}{L L':List (VX M×SV)}{W W':World}(h:Mp Q W0 cv key mb L W)(hl:Laid Q mb L' W W')(hs:Srt key L')(hf:∀j,W'.frozen? ⟨mb,j,none⟩=false)(h0:W'.cell? ⟨mb,0,none⟩=some cv):Mp Q W0 cv key mb L' W':=by
 obtain⟨t,p,a,c,d,e,f⟩:=hl;refine⟨h.dm,h0,⟨t,p,a,c,d⟩,hf,hs,h.bel.trans (e.chg.below (zj _) (fun b g _=>absurd g (yh b))),f⟩
theorem pN{Q:Nat->Prop}{W0:World}{cv:Value}{key:VX M->Int}(hc:Cmp W0 cv key)(mb:Nat)(L:List (VX M×SV))(k:VX M)(v:SV)(W:World)(hL:L.length+1<=1000000)(hQ:∀b,W.heap.size<=b->Q b)(h:Mp Q W0 cv key mb L W):Calls prog 19 #[.pointer (some ⟨mb,0,none⟩),.agg #[.int .i64 (k).1.1,.int .i64 (k).1.2.1,.string (k).1.2.2],.slice v.1 v.2.1 v.2.2] W fun e w'=>e=.returned (.bool (ak key k L).isNone)/\Mp Q W0 cv key mb (bn key k v L) w'/\Chm mb W w':=by
 obtain⟨g,lb,rfl,E,a3⟩:=id hc;have d:=aD W (.cells #[.int .i64 k.1.1,.int .i64 k.1.2.1,.string k.1.2.2] 32);have o:=z7 W (.cells #[.int .i64 k.1.1,.int .i64 k.1.2.1,.string k.1.2.2] 32);obtain⟨m,r⟩:=ae (W.alloc (.cells #[.int .i64 k.1.1,.int .i64 k.1.2.1,.string k.1.2.2] 32));obtain⟨X,F⟩:=ae W.heap.size;rw[r]at d o;rw[F]at o;have x0:=aA o 0;have x1:=aA o 1;have x2:=aA o 2;have xl:=aB o;have z:=aa (ab r (ab F (ab h.lt d)));have c:=h.later d;have n:=c.lt;obtain⟨t,p,c1,ht,G⟩:=c.rt;have c0:=c.c0;have fz:=c.fz 1;have FZ:=aa c.fz;have H:=aa c.ty;have hs:t.size=L.length:=aZ G;have cn:=ax t p Q m ht;have I:Srt key t.az:=G▸c.srt;have pt:=(fun q=>eV hc Q k v t p (m.drewN q) I (by omega) (fun b hb=>hQ b (zx d.size hb)) (c.bel.trans ((aF m q).mono (zj _))) (ht.drewN q));rw[G]at pt;clear r F d o;go_enter_defers func19,ntmps19;go_upto_region 2 with fail;rw[z.1,z.2.1];go_upto_region 5 with (go_at_call 51;(with_reducible refine cn.mono ?_);rintro e y1⟨rfl,a4⟩;subst y1);have s:=enters_of func52 (by kernel_rfl) rfl
 go_cut []from 22 to 35 (fun J=>Hid (Laid Q mb (bn key k v L) m J/\(∀j,J.frozen? ⟨mb,j,none⟩=false)/\J.cell? ⟨mb,0,none⟩=some (.func (.func g) #[] lb)))
 case first =>
  refine qZ ?_
  go_region_law (refine bM s [.pointer p,(.func (.func g) #[] lb),.agg #[.int .i64 (k).1.1,.int .i64 (k).1.2.1,.string (k).1.2.2],(Value.slice v.1 v.2.1 v.2.2)] (by simp[Act.eval]) ?_;refine(pt _).mono ?_;rintro e y2⟨N,p2,rfl,O,P,R⟩;have i:=aC (aF m _) R;have S:=(ze (w:=m) (i.block mb n)).trans c1;have U:=(ze (w:=m) (i.block mb n)).trans c0;have a5:=(wq (w:=m) (i.block mb n)).trans fz;have V:=aa (fun j=>(wq (a:=⟨mb,j,none⟩) (w:=m) (i.block mb n)).trans (FZ.out j));have HL:=aa (kP c.dm H.out i S O P);refine⟨_,rfl,?_⟩)
  all_goals (go_wp2_with fail;go_meet;exact aa ⟨HL.out,fun j=>by rw[ub];exact V.out j,by rw[xm _ _ _ _ (by simp)];exact U⟩)
 obtain⟨x,Y,Z⟩:=hcut.out;have y:=x.mp c c.srt.ins Y Z;obtain⟨N,p2,d1,d2,d3,d4,_⟩:=x;have l:=ax N p2 Q wc d2;have a0:N.size=L.length+(if (ak key k L).isSome then 0 else 1):=(by rw[aZ d3,bY c.srt]);rw[a0]at l;have A:=aa (ab y ((Chm.of_below z.2.2.1 z.2.2.2).trans d4));clear y d4 d2 hcut;cases B:ak key k L with
 | none =>
  rw[B]at l;go_wp2_with (go_at_call 51;refine l.mono ?_;rintro e x3⟨rfl,a1⟩;subst x3);refine leaves_cons (f:=50) (args:=#[]) (by simp) (by simp[go_sem]) ?_;refine(eY _).mono ?_;rintro e u' a2⟨rfl,rfl,rfl⟩;exact⟨_,results_tmp rfl _ _ _,by simp[B];try omega,A.1,A.2⟩
 | some u =>
  rw[B]at l;go_wp2_with (go_at_call 51;refine l.mono ?_;rintro e x3⟨rfl,a1⟩;subst x3);refine leaves_cons (f:=50) (args:=#[]) (by simp) (by simp[go_sem]) ?_;refine(eY _).mono ?_;rintro e u' a2⟨rfl,rfl,rfl⟩;exact⟨_,results_tmp rfl _ _ _,by simp[B];try omega,A.1,A.2⟩
theorem lI{Q:Nat->Prop}{W0:World}{cv:Value}{key:VX M->Int}(mb:Nat)(L:List (VX M×SV))(W:World)(h:Mp Q W0 cv key mb L W):Calls prog 71 #[.pointer (some ⟨mb,0,none⟩)] W fun e a=>a=W/\∃t p,e=.returned (.pointer p)/\Tr W Q t p/\t.az=L:=by
 obtain⟨t,p,c1,b,c⟩:=h.rt;go_enter func71,ntmps71
 go_wp2
 go_ret;exact⟨rfl,t,p,rfl,b,c⟩
theorem jD{Q:Nat->Prop}{W0:World}{cv:Value}{key:VX M->Int}(mb:Nat)(L:List (VX M×SV))(hcc:L=[]∨Cmp W0 cv key)(k:VX M)(W:World)(hL:L.length<=1000000)(h:Mp Q W0 cv key mb L W):Calls prog 49 #[.pointer (some ⟨mb,0,none⟩),.agg #[.int .i64 (k).1.1,.int .i64 (k).1.2.1,.string (k).1.2.2]] W fun e x=>Below W.heap.size W x/\∃q,e=.returned (.tuple #[.pointer q,.int .i64 (below key k L:Int)])/\∃y,Below W.heap.size W y/\Below y.heap.size y x/\Has M y Q (ak key k L) q:=by
 have b:=aD W (.cells #[.int .i64 k.1.1,.int .i64 k.1.2.1,.string k.1.2.2] 32);have c:=z7 W (.cells #[.int .i64 k.1.1,.int .i64 k.1.2.1,.string k.1.2.2] 32);obtain⟨d,f⟩:=ae (W.alloc (.cells #[.int .i64 k.1.1,.int .i64 k.1.2.1,.string k.1.2.2] 32));obtain⟨X,m⟩:=ae W.heap.size;rw[f]at b c;rw[m]at c;have i:=h.later b;obtain⟨t,p,c1,z,j⟩:=i.rt;have A:=aA c 0;have B:=aA c 1;have E:=aA c 2;have F:=aB c;have c0:=i.c0;have n:Srt key t.az:=j▸i.srt;have o:t=.nil∨Cmp W0 cv key:=hcc.imp (fun e=>T.pz (j.trans e)) id;have fn:=nR Q k t p d.drew o n (by have:=aZ j;omega) (i.bel.trans ((zg d.heap.size d).drew.mono (zj _))) z.drew;rw[j]at fn
 have G:∀y,Below d.drew.heap.size d.drew y->y.cell? ⟨mb,0,none⟩=some cv/\y.cell? ⟨mb,1,none⟩=some (.pointer p)/\y.cell? ⟨X,0,none⟩=some (.int .i64 k.1.1)/\y.cell? ⟨X,1,none⟩=some (.int .i64 k.1.2.1)/\y.cell? ⟨X,2,none⟩=some (.string k.1.2.2):=fun y s =>
  have H:=ze (w:=d.drew) (a:=⟨mb,0,none⟩) (s.block mb i.lt);have u:=ze (w:=d.drew) (a:=⟨mb,1,none⟩) (s.block mb i.lt);have v:=(s.block X F).trans c
  ⟨H.trans c0,u.trans c1,aA v 0,aA v 1,aA v 2⟩
 have l:=aa (ab f (ab m (b.drew)));clear f m b c;go_enter func49,ntmps49;go_upto_region 1 with fail;rw[l.1,l.2.1];go_wp2_with fail
 go_region_held3 (fun w=>w.cell? ⟨mb,0,none⟩=some (cv)/\w.cell? ⟨mb,1,none⟩=some (.pointer p)/\w.cell? ⟨X,0,none⟩=some (.int .i64 k.1.1)/\w.cell? ⟨X,1,none⟩=some (.int .i64 k.1.2.1)/\w.cell? ⟨X,2,none⟩=some (.string k.1.2.2)) (first|exact⟨c0,c1,A,B,E⟩ | exact G _ g) (first|(go_at_call 87;(with_reducible refine fn.mono ?_);rintro e J⟨g,r,rfl,I⟩))
 go_wp2_with fail;go_ret2;exact⟨aC l.2.2 g,r,rfl,d.drew,l.2.2,g,I⟩
def Ae:Option SV->Value
 | none=>(.slice none 0 0)
 | some u=>.slice u.1 u.2.1 u.2.2
theorem kQ{Q:Nat->Prop}{W0:World}{cv:Value}{key:VX M->Int}(mb:Nat)(L:List (VX M×SV))(hcc:L=[]∨Cmp W0 cv key)(k:VX M)(W:World)(hL:L.length<=1000000)(h:Mp Q W0 cv key mb L W):Calls prog 18 #[.pointer (some ⟨mb,0,none⟩),.agg #[.int .i64 (k).1.1,.int .i64 (k).1.2.1,.string (k).1.2.2]] W fun e s=>e=.returned (.tuple #[Ae (ak key k L),.bool (ak key k L).isSome])/\Below W.heap.size W s:=by
 have c:=aD W (.cells #[.int .i64 k.1.1,.int .i64 k.1.2.1,.string k.1.2.2] 32);have d:=z7 W (.cells #[.int .i64 k.1.1,.int .i64 k.1.2.1,.string k.1.2.2] 32);obtain⟨t,g⟩:=ae (W.alloc (.cells #[.int .i64 k.1.1,.int .i64 k.1.2.1,.string k.1.2.2] 32));obtain⟨X,m⟩:=ae W.heap.size;rw[g]at c d;rw[m]at d;have z:=aA d 0;have A:=aA d 1;have B:=aA d 2;have E:=aB d;have fn:=jD mb L hcc k t hL (h.later c);have j:=aa (ab g (ab m c));clear g m c d;go_enter_defers func18,ntmps18;go_upto_region 2 with fail;rw[j.1,j.2.1];cases l:ak key k L with
 | none =>
  rw[l]at fn;go_wp2_with (go_at_call 49;refine fn.mono ?_;rintro e v⟨i,r,rfl,y,_,_,o⟩;obtain rfl:r=none:=o);refine leaves_cons (f:=48) (args:=#[]) (by simp) (by simp[go_sem]) ?_;refine(eZ _).mono ?_;rintro e w p⟨rfl,rfl,rfl⟩;exact⟨_,results_tmp2 rfl _ _ _,by rw[l];rfl,aC (aC j.2.2 i) (aD _ _)⟩
 | some u =>
  rw[l]at fn;go_wp2_with (go_at_call 49;refine fn.mono ?_;rintro e v⟨i,r,rfl,y,_,x,o⟩;obtain⟨b,a,n,F,G,rfl,_,q⟩:=o;have c1:=(q.later x).c1;clear q);refine leaves_cons (f:=48) (args:=#[]) (by simp) (by simp[go_sem]) ?_;refine(eZ _).mono ?_;rintro e w p⟨rfl,rfl,rfl⟩;exact⟨_,results_tmp2 rfl _ _ _,by rw[l];rfl,aC j.2.2 i⟩
