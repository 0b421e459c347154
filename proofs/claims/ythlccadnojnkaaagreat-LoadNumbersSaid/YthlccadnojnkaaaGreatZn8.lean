import Derived.Test.YthlccadnojnkaaaGreatZn6
import Derived.Test.YthlccadnojnkaaaGreatZn7
import Derived.Deep.RegionLaw
import Derived.Deep.CutRange
import Derived.Shelf.Abstract
set_option maxHeartbeats 1000000
set_option maxRecDepth 100000
namespace Go.Proofs.YthlccadnojnkaaaGreat.Co.S
open Go.Proofs.Tryz
open Go Go.RowKit Go.Shelf Go.Proofs Go.Proofs.YthlccadnojnkaaaGreat Go.Proofs.YthlccadnojnkaaaGreat.Co
variable {M:Nat}
attribute [local go_sem] CG CZ
def BY(ty:TypeId):Bool:=ty==168 || ty==32 || ty==116 || ty==3 || ty==71 || ty==92 || ty==99 || ty==35 || ty==45 || ty==77 || ty==122 || ty==39
def Ty(W:World)(mb:Nat):Prop:=∃cs ty,W.heap[mb]?=some (.cells cs ty)/\BY ty=true
theorem Ty.of{W W':World}{mb:Nat}(h:Ty W mb)(hb:W'.heap[mb]?=W.heap[mb]?):Ty W' mb:=by
 obtain⟨cs,ty,a,b⟩:=h;exact⟨cs,ty,hb.trans a,b⟩
theorem Ty.set{W:World}{mb:Nat}(h:Ty W mb)(j:Nat)(v:Value):Ty (W.setCell ⟨mb,j,none⟩ v) mb:=by
 obtain⟨cs,ty,a,b⟩:=h;exact⟨_,ty,y9 W mb j cs ty v a,b⟩
structure Mp (D:Nat) (W0:World) (cv:Value) (key:K M->Int) (mb:Nat) (L:List (K M×Int)) (W:World):Prop where
 dm:D<=mb
 c0:W.cell? ⟨mb,2,none⟩=some cv
 rt:∃t p,W.cell? ⟨mb,3,none⟩=some (.pointer p)/\Tr W (mb+1) t p/\t.fj=L
 fz:∀j,W.frozen? ⟨mb,j,none⟩=false
 srt:Srt key L
 bel:Below D W0 W
 ty:Ty W mb
theorem Mp.lt{D:Nat}{W0:World}{cv:Value}{key:K M->Int}{mb:Nat}{L:List (K M×Int)}{W:World}(h:Mp D W0 cv key mb L W):mb<W.heap.size:=xn W ⟨mb,2,none⟩ h.c0
theorem Mp.later{D:Nat}{W0:World}{cv:Value}{key:K M->Int}{mb:Nat}{L:List (K M×Int)}{W W':World}(h:Mp D W0 cv key mb L W)(hb:Below W.heap.size W W'):Mp D W0 cv key mb L W':=by
 have a:=hb.block mb h.lt;obtain⟨t,p,b,c,d⟩:=h.rt;exact⟨h.dm,(za (w:=W) a).trans h.c0,⟨t,p,(za (w:=W) a).trans b,c.later hb,d⟩,fun j=>(vc (w:=W) a).trans (h.fz j),h.srt,h.bel.trans (hb.mono (by have:=h.lt;have:=h.dm;omega)),h.ty.of a⟩
theorem J6(g:Nat)(lb:Array Value)(W:World):Calls prog 172 #[(.func (.func g) #[] lb)] W fun e a =>
  e=.returned (.pointer (some ⟨W.heap.size,0,none⟩))/\a.cell? ⟨W.heap.size,0,none⟩=some (.func (.func g) #[] lb)/\a.cell? ⟨W.heap.size,1,none⟩=some (.pointer none)/\Below W.heap.size W a:=by
 go_enter func172,ntmps172
 go_wp2
 go_ret;have b:=z7 W (.cells #[(.func (.func g) #[] lb),.pointer none] 164);exact⟨rfl,aA b 0,aA b 1,aD W _⟩
structure Chm (mb:Nat) (W W':World):Prop where
 chg:Chg (fun b=>b=mb) W W'
 keep:∀j,j≠2->j≠3->W'.cell? ⟨mb,j,none⟩=W.cell? ⟨mb,j,none⟩
theorem Chm.trans{mb:Nat}{A B C:World}(h:Chm mb A B)(k:Chm mb B C):Chm mb A C:=⟨h.chg.trans k.chg (fun _ _ x=>x) (fun _ _ x=>x),fun j a b=>(k.keep j a b).trans (h.keep j a b)⟩
theorem Chm.of_below{mb:Nat}{A B:World}(hlt:mb<A.heap.size)(h:Below A.heap.size A B):Chm mb A B:=⟨Chg.of_below h,fun _ _ _=>za (w:=A) (h.block mb hlt)⟩
theorem vU(w:World):CallsD prog 186 #[] .returning w fun e a b=>e=.returned (.tuple #[])/\a=.returning/\b=w:=by
 refine callsD_of_wpS func186 rfl fun c cs d=>?_
 apply wpS_region;cases c
 simp_all [wpOpsS,go_sem,recoverD,ntmps186,bodyPostS,results,results186]
theorem vV(w:World):CallsD prog 189 #[] .returning w fun e a b=>e=.returned (.tuple #[])/\a=.returning/\b=w:=by
 refine callsD_of_wpS func189 rfl fun c cs d=>?_
 apply wpS_region;cases c
 simp_all [wpOpsS,go_sem,recoverD,ntmps189,bodyPostS,results,results189]
theorem vW(w:World):CallsD prog 184 #[] .returning w fun e a b=>e=.returned (.tuple #[])/\a=.returning/\b=w:=by
 refine callsD_of_wpS func184 rfl fun c cs d=>?_
 apply wpS_region;cases c
 simp_all [wpOpsS,go_sem,recoverD,ntmps184,bodyPostS,results,results184]
def Laid(mb:Nat)(L:List (K M×Int))(W W':World):Prop:=∃t p,W'.cell? ⟨mb,3,none⟩=some (.pointer p)/\Tr W' (mb+1) t p/\t.fj=L/\Chm mb W W'/\Ty W' mb
theorem Dz{mb:Nat}{L:List (K M×Int)}{W x:World}{t:T (K M) Int}{p q:Option Addr}(hty:Ty W mb)(hb:Below W.heap.size W x)(hc:x.cell? ⟨mb,3,none⟩=some (.pointer q))(ht:Tr x (mb+1) t p)(hL:t.fj=L):Laid mb L W (x.setCell ⟨mb,3,none⟩ (.pointer p)):=by
 have a:mb<W.heap.size:=(by obtain⟨_,_,c,_⟩:=hty;exact aC c);refine⟨t,p,wq _ _ _ hc,Tr.of (fun b c _=>uj _ _ _ b (by intro e;simp at e;omega)) ht,hL,⟨(Chg.of_below (S:=fun b=>b=mb) hb).setCell (fun _=>rfl) _,fun j _ d=>?_⟩,(hty.of (hb.block mb a)).set 3 _⟩;rw[xu _ _ _ _ (fun e=>d (by cases e;rfl))];exact za (w:=W) (hb.block mb a)
theorem Laid.mp{D:Nat}{W0:World}{cv:Value}{key:K M->Int}{mb:Nat}{L L':List (K M×Int)}{W W':World}(h:Mp D W0 cv key mb L W)(hl:Laid mb L' W W')(hs:Srt key L')(hf:∀j,W'.frozen? ⟨mb,j,none⟩=false)(h0:W'.cell? ⟨mb,2,none⟩=some cv):Mp D W0 cv key mb L' W':=by
 obtain⟨t,p,a,c,d,f,g⟩:=hl;refine⟨h.dm,h0,⟨t,p,a,c,d⟩,hf,hs,h.bel.trans (f.chg.below (by have:=h.lt;have:=h.dm;omega) (fun b i e=>by have:=h.dm;omega)),g⟩
theorem Lt{D:Nat}{W0:World}{cv:Value}{key:K M->Int}(hc:Cmp D W0 cv key)(mb:Nat)(L:List (K M×Int))(k:K M)(v:Int)(W:World)(hL:L.length+1<=1000000)(h:Mp D W0 cv key mb L W):Calls prog 169 #[.pointer (some ⟨mb,2,none⟩),.string (k).1,.int .i64 v] W fun e S=>e=.returned (.bool (dq key k L).isNone)/\Mp D W0 cv key mb (fp key k v L) S/\Chm mb W S:=by
 obtain⟨g,lb,rfl,r,U⟩:=id hc;have b:=h.lt;obtain⟨t,p,c1,V,s⟩:=h.rt;have c0:=h.c0;have fz:=h.fz 3;have FZ:=aa h.fz;have x:=aa h.ty;have hs:t.size=L.length:=bS s;have cn:=bB t p (mb+1) W V;have y:Srt key t.fj:=s▸h.srt;have X:=(fun q=>rX hc (mb+1) (by have:=h.dm;omega) k v t p (W.drewN q) y (by omega) b (h.bel.trans ((aG W q).mono (by have:=h.dm;omega))) (V.drewN q));rw[s]at X;go_enter_defers func169,ntmps169;go_upto_region 5 with (go_at_call 187;(with_reducible refine cn.mono ?_);rintro e x1⟨rfl,a0⟩;subst x1);have i:=enters_of func188 (by kernel_rfl) rfl
 go_cut []from 22 to 35 (fun z=>Hid (Laid mb (fp key k v L) W z/\(∀j,z.frozen? ⟨mb,j,none⟩=false)/\z.cell? ⟨mb,2,none⟩=some (.func (.func g) #[] lb)))
 case first =>
  refine Di ?_
  go_region_law (refine cA i [.pointer p,(.func (.func g) #[] lb),.string (k).1,.int .i64 v] (by simp[Act.eval]) ?_;refine(X _).mono ?_;rintro e x2⟨A,Y,rfl,B,E,F⟩;have c:=aB (aG W _) F;have G:=(za (w:=W) (c.block mb b)).trans c1;have H:=(za (w:=W) (c.block mb b)).trans c0;have a1:=(vc (w:=W) (c.block mb b)).trans fz;have I:=aa (fun j=>(vc (a:=⟨mb,j,none⟩) (w:=W) (c.block mb b)).trans (FZ.out j));have HL:=aa (Dz x.out c G B E);refine⟨_,rfl,?_⟩)
  all_goals (go_wp2_with fail;go_meet;exact aa ⟨HL.out,fun j=>by rw[um];exact I.out j,by rw[xu _ _ _ _ (by simp)];exact H⟩)
 obtain⟨l,J,N⟩:=hcut.out;have m:=l.mp h h.srt.ins J N;obtain⟨A,Y,d1,Z,d3,d4,_⟩:=l;have d:=bB A Y (mb+1) wc Z;have O:A.size=L.length+(if (dq key k L).isSome then 0 else 1):=(by rw[bS d3,eR h.srt]);rw[O]at d;have n:=aa (ab m d4);clear m d4 Z hcut;cases o:dq key k L with
 | none =>
  rw[o]at d;go_wp2_with (go_at_call 187;refine d.mono ?_;rintro e P⟨rfl,Q⟩;subst P);refine leaves_cons (f:=186) (args:=#[]) (by simp) (by simp[go_sem]) ?_;refine(vU _).mono ?_;rintro e u' R⟨rfl,rfl,rfl⟩;exact⟨_,results_tmp rfl _ _ _,by simp[o];try omega,n.1,n.2⟩
 | some u =>
  rw[o]at d;go_wp2_with (go_at_call 187;refine d.mono ?_;rintro e P⟨rfl,Q⟩;subst P);refine leaves_cons (f:=186) (args:=#[]) (by simp) (by simp[go_sem]) ?_;refine(vU _).mono ?_;rintro e u' R⟨rfl,rfl,rfl⟩;exact⟨_,results_tmp rfl _ _ _,by simp[o];try omega,n.1,n.2⟩
variable {M:Nat}
attribute [local go_sem] CG CZ
theorem FI{D:Nat}{W0:World}{cv:Value}{key:K M->Int}(mb:Nat)(L:List (K M×Int))(hcc:L=[]∨Cmp D W0 cv key)(k:K M)(W:World)(hL:L.length<=1000000)(h:Mp D W0 cv key mb L W):Calls prog 170 #[.pointer (some ⟨mb,2,none⟩),.string (k).1] W fun e S=>e=.returned (.bool (dq key k L).isSome)/\Mp D W0 cv key mb (ib key k L) S/\Chm mb W S:=by
 have c:=h.lt;obtain⟨t,p,c1,U,n⟩:=h.rt;have c0:=h.c0;have fz:=h.fz 3;have FZ:=aa h.fz;have v:=aa h.ty;have hs:t.size=L.length:=bS n;have cn:=bB t p (mb+1) W U;have x:Srt key t.fj:=n▸h.srt;have y:t=.nil∨Cmp D W0 cv key:=hcc.imp (fun e=>T.rx (n.trans e)) id;have V:=(fun q=>fT (mb+1) (by have:=h.dm;omega) k t p (W.drewN q) y x (by omega) c (h.bel.trans ((aG W q).mono (by have:=h.dm;omega))) (U.drewN q));rw[n]at V;go_enter_defers func170,ntmps170;go_upto_region 5 with (go_at_call 187;(with_reducible refine cn.mono ?_);rintro e x1⟨rfl,a0⟩;subst x1);have i:=enters_of func190 (by kernel_rfl) rfl
 go_cut []from 13 to 25 (fun z=>Hid (Laid mb (ib key k L) W z/\(∀j,z.frozen? ⟨mb,j,none⟩=false)/\z.cell? ⟨mb,2,none⟩=some cv))
 case first =>
  refine Di ?_
  go_region_law (refine cA i [.pointer p,cv,.string (k).1] (by simp[Act.eval]) ?_;refine(V _).mono ?_;rintro e x2⟨o,X,rfl,A,B,E⟩;have d:=aB (aG W _) E;have F:=(za (w:=W) (d.block mb c)).trans c1;have G:=(za (w:=W) (d.block mb c)).trans c0;have a1:=(vc (w:=W) (d.block mb c)).trans fz;have H:=aa (fun j=>(vc (a:=⟨mb,j,none⟩) (w:=W) (d.block mb c)).trans (FZ.out j));have HL:=aa (Dz v.out d F A B);refine⟨_,rfl,?_⟩)
  all_goals (go_wp2_with fail;go_meet;exact aa ⟨HL.out,fun j=>by rw[um];exact H.out j,by rw[xu _ _ _ _ (by simp)];exact G⟩)
 obtain⟨l,I,J⟩:=hcut.out;have m:=l.mp h h.srt.del I J;obtain⟨o,X,d1,Y,d3,Z,_⟩:=l;have g:=bB o X (mb+1) wc Y;have b:o.size+(if (dq key k L).isSome then 1 else 0)=L.length:=(by rw[bS d3,eS]);have r:=aa (ab m Z);obtain⟨z2,N⟩:=ag o.size;rw[N]at g b;obtain⟨zl,O⟩:=ag L.length;rw[O]at b ⊢;clear m Z Y hcut;cases s:dq key k L with
 | none =>
  rw[s]at b;obtain rfl:z2=zl:=(by simpa using b);go_wp2_with (go_at_call 187;refine g.mono ?_;rintro e P⟨rfl,Q⟩;subst P);refine leaves_cons (f:=189) (args:=#[]) (by simp) (by simp[go_sem]) ?_;refine(vV _).mono ?_;rintro e u' R⟨rfl,rfl,rfl⟩;exact⟨_,results_tmp rfl _ _ _,by simp[s],r.1,r.2⟩
 | some u =>
  rw[s]at b;obtain rfl:zl=z2+1:=(by simp at b;omega);go_wp2_with (go_at_call 187;refine g.mono ?_;rintro e P⟨rfl,Q⟩;subst P);refine leaves_cons (f:=189) (args:=#[]) (by simp) (by simp[go_sem]) ?_;refine(vV _).mono ?_;rintro e u' R⟨rfl,rfl,rfl⟩;exact⟨_,results_tmp rfl _ _ _,by simp[s];try omega,r.1,r.2⟩
theorem Ii{D:Nat}{W0:World}{cv:Value}{key:K M->Int}(mb:Nat)(L:List (K M×Int))(W:World)(h:Mp D W0 cv key mb L W):Calls prog 191 #[.pointer (some ⟨mb,2,none⟩)] W fun e a=>a=W/\∃t p,e=.returned (.pointer p)/\Tr W (mb+1) t p/\t.fj=L:=by
 obtain⟨t,p,c1,b,c⟩:=h.rt;go_enter func191,ntmps191
 go_wp2
 go_ret;exact⟨rfl,t,p,rfl,b,c⟩
theorem Hm{D:Nat}{W0:World}{cv:Value}{key:K M->Int}(mb:Nat)(L:List (K M×Int))(W:World)(h:Mp D W0 cv key mb L W):Calls prog 171 #[.pointer (some ⟨mb,2,none⟩)] W fun e d=>e=.returned (.int .i64 (L.length:Int))/\d=W:=by
 have f:=Ii mb L W h;go_enter func171,ntmps171
 go_wp2_with (first|(go_at_call 191;refine f.mono ?_;rintro e a⟨b,t,p,rfl,c,g⟩;subst a;have cn:=bB t p (mb+1) W c;rw[bS g]at cn)|(go_at_call 187;refine cn.mono ?_;rintro e a⟨rfl,b⟩;subst a))
 go_ret;exact⟨rfl,rfl⟩
theorem Has.undrew{W:World}{B:Nat}:∀{o:Option Int} {q:Option Addr},Has M W.drew B o q->Has M W B o q
 | none,_,h=>h
 | some _,_,⟨b,a,n,lp,rp,h1,h2,h3⟩=>⟨b,a,n,lp,rp,h1,h2,⟨h3.c0,h3.c1,h3.c2,h3.c3,h3.c4⟩⟩
theorem EM{D:Nat}{W0:World}{cv:Value}{key:K M->Int}(mb:Nat)(L:List (K M×Int))(hcc:L=[]∨Cmp D W0 cv key)(k:K M)(W:World)(hL:L.length<=1000000)(h:Mp D W0 cv key mb L W):Calls prog 185 #[.pointer (some ⟨mb,2,none⟩),.string (k).1] W fun e f=>(∃q,f=W.drewN q)/\∃q,e=.returned (.tuple #[.pointer q,.int .i64 (below key k L:Int)])/\Has M W (mb+1) (dq key k L) q:=by
 have b:=h.lt;obtain⟨t,p,c1,g,a⟩:=h.rt;have c0:=h.c0;have c:Srt key t.fj:=a▸h.srt;have d:t=.nil∨Cmp D W0 cv key:=hcc.imp (fun e=>T.rx (a.trans e)) id;have fn:=KW (mb+1) (by have:=h.dm;omega) k t p W.drew d c (by have:=bS a;omega) b (h.bel.trans ((zb _ W).drew.mono (by have:=h.dm;omega))) g.drew;rw[a]at fn;go_enter func185,ntmps185;go_wp2_with fail
 go_region_held3 (fun w=>w.cell? ⟨mb,2,none⟩=some (cv)/\w.cell? ⟨mb,3,none⟩=some (.pointer p)) (first|exact⟨c0,c1⟩) (first|(go_at_call 206;(with_reducible refine fn.mono ?_);rintro e j⟨⟨q,rfl⟩,r,rfl,i⟩))
 go_wp2_with fail;go_ret2;exact⟨⟨_,rfl⟩,r,rfl,i.undrew⟩
def Bx:Option Int->Value
 | none=>(.int .i64 0)
 | some u=>(.int .i64 u)
theorem Fa{D:Nat}{W0:World}{cv:Value}{key:K M->Int}(mb:Nat)(L:List (K M×Int))(hcc:L=[]∨Cmp D W0 cv key)(k:K M)(W:World)(hL:L.length<=1000000)(h:Mp D W0 cv key mb L W):Calls prog 168 #[.pointer (some ⟨mb,2,none⟩),.string (k).1] W fun e o=>e=.returned (.tuple #[Bx (dq key k L),.bool (dq key k L).isSome])/\Below W.heap.size W o:=by
 have fn:=EM mb L hcc k W hL h;go_enter_defers func168,ntmps168;cases l:dq key k L with
 | none =>
  rw[l]at fn;go_wp2_with (go_at_call 185;refine fn.mono ?_;rintro e d⟨⟨q,c⟩,r,rfl,g⟩;have i:Below W.heap.size W d:=c▸aG W q;clear c;obtain rfl:r=none:=g);refine leaves_cons (f:=184) (args:=#[]) (by simp) (by simp[go_sem]) ?_;refine(vW _).mono ?_;rintro e p j⟨rfl,rfl,rfl⟩;exact⟨_,results_tmp2 rfl _ _ _,rfl,aB i (aD _ _)⟩
 | some u =>
  rw[l]at fn;go_wp2_with (go_at_call 185;refine fn.mono ?_;rintro e d⟨⟨q,c⟩,r,rfl,g⟩;subst d;obtain⟨b,a,n,s,t,rfl,_,m⟩:=g;have c1:=(m.later (aG W q)).c1;clear m);refine leaves_cons (f:=184) (args:=#[]) (by simp) (by simp[go_sem]) ?_;refine(vW _).mono ?_;rintro e p j⟨rfl,rfl,rfl⟩;exact⟨_,results_tmp2 rfl _ _ _,rfl,aG W q⟩
variable {M:Nat}
theorem Lq(a b:ByteArray)(w:World):Calls prog 192 #[.string a,.string b] w fun e c=>e=.returned (.int .i64 (Lib.compareBytes a.data.toList b.data.toList))/\c=w:=by
 go_enter func192,ntmps192
 go_wp2
 rw[run_callFunc_extern func209 (by kernel_rfl) (by kernel_rfl) (by kernel_rfl) (e:=Extern.BytealgCompare.compare) (by kernel_rfl),Lib.run_compareString];simp only[Result.andThen];rw[Oper.upon_value]
 go_wp2
 go_ret;exact⟨rfl,rfl⟩
theorem oR(a b:ByteArray)(w:World):Calls prog 173 #[.string a,.string b] w fun e c=>e=.returned (.int .i64 (Lib.compareBytes a.data.toList b.data.toList))/\c=w:=by
 have h:=Lq a b w;go_enter func173,ntmps173;go_wp2_with (go_at_call 192;refine h.mono ?_;rintro e c⟨rfl,d⟩;subst d);go_ret;exact⟨rfl,rfl⟩
abbrev px:Value:=.func (.func 173) #[] #[]
theorem Cy(D:Nat)(W0:World):Cmp (M:=M) D W0 px keyOf:=
 ⟨173,#[],rfl,enters_of func173 (by kernel_rfl) rfl,fun w a b _=>(oR a.1 b.1 w).mono (by
  rintro e c⟨rfl,rfl⟩;rw[qC];exact⟨rfl,0,rfl⟩)⟩
structure Dm (W0:World) (mb:Nat) (L:List (K M×Int)) (W:World):Prop where
 mp:∃cv,Mp 0 W0 cv keyOf mb L W/\(L=[]∨cv=px)
 pos:∀p∈L,1<=p.2/\p.2<=1000000
 len:L.length<=999999
theorem Dm.lt{W0 W:World}{mb:Nat}{L:List (K M×Int)}(h:Dm W0 mb L W):mb<W.heap.size:=by obtain⟨cv,a,_⟩:=h.mp;exact a.lt
theorem Dm.later{W0 W W':World}{mb:Nat}{L:List (K M×Int)}(h:Dm W0 mb L W)(hb:Below W.heap.size W W'):Dm W0 mb L W':=by
 obtain⟨cv,a,b⟩:=h.mp;exact⟨⟨cv,a.later hb,b⟩,h.pos,h.len⟩
theorem Dm.bel{W0 W:World}{mb:Nat}{L:List (K M×Int)}(h:Dm W0 mb L W):Below 0 W0 W:=by obtain⟨cv,a,_⟩:=h.mp;exact a.bel
def tm(s:K M)(L:List (K M×Int)):Int:=(dq keyOf s L).getD 0
def has(s:K M)(L:List (K M×Int)):Bool:=(dq keyOf s L).isSome
theorem Ha(s:K M)(L:List (K M×Int)):Bx (dq keyOf s L)=.int .i64 (tm s L):=by
 unfold tm;cases dq keyOf s L <;> rfl
theorem sG{W0 W:World}{mb:Nat}{L:List (K M×Int)}(s:K M)(h:Dm W0 mb L W):Calls prog 168 #[.pointer (some ⟨mb,2,none⟩),.string s.1] W fun e a=>e=.returned (.tuple #[.int .i64 (tm s L),.bool (has s L)])/\Below W.heap.size W a:=by
 obtain⟨cv,b,c⟩:=h.mp
 have:=Fa mb L (c.imp id (fun e=>e▸Cy 0 W0)) s W (by have:=h.len;omega) b
 rw[Ha]at this;exact this
theorem CW{W0 W:World}{mb:Nat}{L:List (K M×Int)}(h:Dm W0 mb L W):Calls prog 171 #[.pointer (some ⟨mb,2,none⟩)] W fun e a=>e=.returned (.int .i64 (L.length:Int))/\a=W:=by
 obtain⟨cv,b,c⟩:=h.mp;exact Hm mb L W b
theorem vX{s:K M}{v:Int}:∀{L:List (K M×Int)},dq keyOf s L=some v->∃p∈L,p.2=v
 | [],h=>by simp[dq]at h
 | (a,w)::r,h=>by
  rw[dq]at h;split at h
  ·cases h;exact⟨(a,v),by simp,rfl⟩
  ·obtain⟨p,b,e⟩:=vX h;exact⟨p,by simp[b],e⟩
theorem Dm.z'{W0 W:World}{mb:Nat}{L:List (K M×Int)}(h:Dm W0 mb L W)(s:K M):0<=tm s L/\tm s L<=1000000/\(has s L=true↔1<=tm s L):=by
 unfold tm has;cases a:dq keyOf s L with
 | none=>simp
 | some v =>
  obtain⟨p,b,e⟩:=vX a
  have:=h.pos p b
  rw[e]at this
  simp;omega
theorem IG{W0 W:World}{mb:Nat}{L:List (K M×Int)}(s:K M)(h:Dm W0 mb L W):Calls prog 170 #[.pointer (some ⟨mb,2,none⟩),.string s.1] W fun e a=>e=.returned (.bool (has s L))/\Dm W0 mb (ib keyOf s L) a/\Chm mb W a:=by
 obtain⟨cv,d,b⟩:=h.mp;refine(FI mb L (b.imp id (fun e=>e▸Cy 0 W0)) s W (by have:=h.len;omega) d).mono ?_;rintro e a⟨rfl,m,c⟩;refine⟨rfl,⟨⟨cv,m,b.imp (fun e=>by rw[e];rfl) id⟩,fun p f=>h.pos p (nU f),?_⟩,c⟩
 have:=eS (key:=keyOf) (k:=s) (L:=L)
 have:=h.len
 omega
theorem vY{s:K M}{v:Int}{Q:Int->Prop}(hv:Q v):∀{L:List (K M×Int)},(∀p∈L,Q p.2)->∀p∈fp keyOf s v L,Q p.2
 | [],_,p,b=>by rw[fp,zy]at b;rw[b];exact hv
 | (a,w)::r,h,p,b=>by
  rw[fp]at b;split at b
  ·rcases List.mem_cons.1 b with rfl|b
   ·exact hv
   ·exact h p b
  ·split at b
   ·rcases List.mem_cons.1 b with rfl|b
    ·exact h (a,w) (by simp)
    ·exact vY hv (fun p b=>h p (by simp[b])) p b
   ·rcases List.mem_cons.1 b with rfl|b
    ·exact hv
    ·exact h p (by simp[b])
theorem oS{W0 W:World}{mb:Nat}{L:List (K M×Int)}(s:K M)(v:Int)(hv:1<=v/\v<=1000000)(hl:L.length+1<=999999)(hm:Mp 0 W0 px keyOf mb L W)(hpos:∀p∈L,1<=p.2/\p.2<=1000000):Calls prog 169 #[.pointer (some ⟨mb,2,none⟩),.string s.1,.int .i64 v] W fun e a=>e=.returned (.bool (!has s L))/\Dm W0 mb (fp keyOf s v L) a/\Chm mb W a:=by
 refine(Lt (Cy 0 W0) mb L s v W (by omega) hm).mono ?_;rintro e a⟨rfl,m,c⟩;refine⟨?_,⟨⟨px,m,.inr rfl⟩,vY (Q:=fun v=>1<=v/\v<=1000000) hv hpos,?_⟩,c⟩
 ·unfold has;cases dq keyOf s L <;> rfl
 have:=eR (v:=v) (k:=s) hm.srt
 split at this <;> omega
variable {M:Nat}
theorem oT{P:Program}{w:World}{m:Mode}{ad:Addr}(f:Fn)(a b:Array Value):(store ad (.func f a b) m).run P w=stored P w ad (.func f a b) m:=run_store P w ad _ m rfl
attribute [local go_sem] oT
theorem gA(mb:Nat)(W:World):Calls prog 167 #[.pointer (some ⟨mb,2,none⟩)] W fun e a=>e=.returned (.pointer (some ⟨mb,2,none⟩))/\a=W:=by
 go_enter func167,ntmps167
 go_wp2
 go_ret;exact⟨rfl,rfl⟩
theorem KK{W0 W x1:World}{mb:Nat}{cv:Value}(h:Mp (M:=M) 0 W0 cv keyOf mb [] W)(hx:Below W.heap.size W x1):Mp (M:=M) 0 W0 px keyOf mb [] ((x1.setCell ⟨mb,2,none⟩ px).setCell ⟨mb,3,none⟩ (.pointer none))/\Chm mb W ((x1.setCell ⟨mb,2,none⟩ px).setCell ⟨mb,3,none⟩ (.pointer none)):=by
 have a:=h.later hx;obtain⟨t,p,f,g,i⟩:=a.rt;have c0:=a.c0;refine⟨⟨zh _,?_,⟨.nil,none,?_,rfl,rfl⟩,fun j=>by rw[um,um];exact a.fz j,Srt.nil,?_,(a.ty.set 2 _).set 3 _⟩,?_,fun j c d=>?_⟩
 ·rw[xu _ _ _ _ (by simp)];exact wq _ _ _ c0
 ·refine wq (u:=.pointer p) _ _ _ ?_;rw[xu _ _ _ _ (by simp)];exact f
 ·exact(a.bel.setCell (zh _) _).setCell (zh _) _
 ·exact((Chg.of_below (S:=fun b=>b=mb) hx).setCell (fun _=>rfl) _).setCell (fun _=>rfl) _
 rw[xu _ _ _ _ (fun e=>d (by cases e;rfl)),xu _ _ _ _ (fun e=>c (by cases e;rfl))];exact za (w:=W) (hx.block mb h.lt)
theorem Fd{W0 W:World}{mb:Nat}(h:Mp (M:=M) 0 W0 px keyOf mb [] W):Dm (M:=M) W0 mb [] W:=⟨⟨px,h,.inr rfl⟩,fun p a=>by simp at a,by simp⟩
theorem dD{W0 W:World}{mb:Nat}{L:List (K M×Int)}(s:K M)(h:Dm W0 mb L W)(hl:L.length+1<=999999)(ht:tm s L+1<=1000000):Calls prog 146 #[.pointer (some ⟨mb,2,none⟩),.string s.1] W fun e b=>e=.returned (.bool (!has s L))/\Dm W0 mb (fp keyOf s (tm s L+1) L) b/\Chm mb W b:=by
 obtain⟨cv,l,A⟩:=h.mp;have n:=h.z' s;have c:=aa h.pos;have d:=CW h;have o:=h.lt;by_cases w:L=[]
 ·subst w;have O:=h.bel;obtain⟨hb,q⟩:=ag W.heap.size;have g:=J6 173 #[] W;rw[q]at g;have P:=h.lt;obtain⟨t,p,Q,R,r⟩:=l.rt;have S:=(fun k(u:Below W.heap.size W k)=>KK l u);have U:=(fun k(u:Below W.heap.size W k)=>l.later u);have e0:tm s ([]:List (K M×Int))=0:=rfl;have I:has s ([]:List (K M×Int))=false:=rfl;have B:∀y,Mp (M:=M) 0 W0 px keyOf mb [] y->Calls prog 168 #[.pointer (some ⟨mb,2,none⟩),.string s.1] y fun e b=>e=.returned (.tuple #[.int .i64 0,.bool false])/\Below y.heap.size y b:=fun y m=>sG s (Fd m)
  rw[e0,I];clear n ht hl A c Q R r e0 I;go_enter func146,ntmps146
  go_wp2_with (first|(go_at_call 171;refine d.mono ?_;rintro e b⟨rfl,V⟩;subst b)|(go_at_call 172;refine g.mono ?_;rintro e k⟨rfl,k0,k1,b1⟩;rw[<-q]at b1;obtain⟨E,X⟩:=S k b1;have z:=U k b1;have y0:=z.c0;obtain⟨_,pp,y1,_,_⟩:=z.rt;have f0:=z.fz 2;have f1:=z.fz 3)|(go_at_call 168;refine(B _ E).mono ?_;rintro e F⟨rfl,b2⟩;have Y:=E.later b2;have a:Calls prog 169 #[.pointer (some ⟨mb,2,none⟩),.string s.1,.int .i64 1] F fun e b=>e=.returned (.bool true)/\Dm W0 mb (fp keyOf s (0+1) []) b/\Chm mb F b:=oS (L:=[]) s 1 (by omega) (by simp) Y (by simp))|(go_at_call 169;refine a.mono ?_;rintro e Z⟨rfl,r,c3⟩))
  go_ret;exact⟨rfl,r,(X.trans (Chm.of_below E.lt b2)).trans c3⟩
 have G:cv=px:=A.resolve_left w;subst G;have H:L.length≠0:=(fun e=>w (List.length_eq_zero_iff.1 e));obtain⟨J,v⟩:=ag L.length;rw[v]at d H;have a0:decide ((J:Int)=0)=false:=yw (by omega);have a1:((J:Int)==0)=false:=(by simp;omega);have i:=sG s h;obtain⟨N,f⟩:=ag (tm s L);obtain⟨hv,j⟩:=ag (has s L);have a:=(fun x(u:Below W.heap.size W x)=>oS s (tm s L+1) (by omega) hl (l.later u) c.out);rw[f,j]at i a ⊢;rw[f]at n ht;have a2:IntKind.i64.wrap (N+1)=N+1:=(by rw[IntKind.wrap_i64];omega);have HT:=aa f;have HH:=aa j;clear f j v w A l c;go_enter func146,ntmps146
 go_wp2_with (first|(go_at_call 171;refine d.mono ?_;rintro e b⟨rfl,V⟩;subst b)|(go_at_call 168;refine i.mono ?_;rintro e F⟨rfl,b2⟩)|(go_at_call 169;refine(a _ b2).mono ?_;rintro e Z⟨rfl,r,c3⟩))
 go_ret;exact⟨rfl,r,(Chm.of_below o b2).trans c3⟩
variable {M:Nat}
def nk(s:K M)(L:List (K M×Int)):List (K M×Int):=if 1<tm s L then fp keyOf s (tm s L-1) L else ib keyOf s L
theorem sH(s:K M):tm s []=0:=rfl
theorem Gu{W0 W:World}{mb:Nat}{L:List (K M×Int)}(s:K M)(h:Dm W0 mb L W)(hl:L.length+1<=999999):Calls prog 145 #[.pointer (some ⟨mb,2,none⟩),.string s.1] W fun e k=>e=.returned (.bool (has s L))/\Dm W0 mb (nk s L) k/\Chm mb W k:=by
 obtain⟨cv,p,q⟩:=h.mp;have d:=h.z' s;have b:=aa h.pos;have a:=sG s h;have f:=gA mb W;have g:=h.lt;obtain⟨B,l⟩:=ag (has s L);unfold nk;by_cases j:1<tm s L
 ·have r:cv=px:=q.resolve_left (fun e=>by rw[e,sH]at j;omega);subst r;have i:=(fun x(t:Below W.heap.size W x)=>oS s (tm s L-1) (by omega) hl (p.later t) b.out);rw[zv j];have m:has s L=true:=d.2.2.2 (by omega);obtain⟨n,c⟩:=ag (tm s L);rw[c]at a i d j ⊢;rw[m]at a ⊢;have w:IntKind.i64.wrap (n-1)=n-1:=(by rw[IntKind.wrap_i64];omega);have u:decide (1<n)=true:=xd j;clear c m l p q d b;go_enter func145,ntmps145
  go_wp2_with (first|(go_at_call 167;refine f.mono ?_;rintro e k⟨rfl,y⟩;subst k)|(go_at_call 168;refine a.mono ?_;rintro e z⟨rfl,b2⟩)|(go_at_call 169;refine(i _ b2).mono ?_;rintro e A⟨rfl,v,c3⟩))
  go_ret;exact⟨rfl,v,(Chm.of_below g b2).trans c3⟩
 rw[zq j];have o:=(fun x(t:Below W.heap.size W x)=>IG s (h.later t));obtain⟨n,c⟩:=ag (tm s L);rw[c]at a j;have u:decide (1<n)=false:=yw j;clear c l p q d b;go_enter func145,ntmps145
 go_wp2_with (first|(go_at_call 167;refine f.mono ?_;rintro e k⟨rfl,y⟩;subst k)|(go_at_call 168;refine a.mono ?_;rintro e z⟨rfl,b2⟩)|(go_at_call 170;refine(o _ b2).mono ?_;rintro e A⟨rfl,v,c3⟩))
 go_ret;exact⟨rfl,v,(Chm.of_below g b2).trans c3⟩
theorem FM{W0 W:World}{mb:Nat}{L:List (K M×Int)}(h:Dm W0 mb L W):Calls prog 149 #[.pointer (some ⟨mb,2,none⟩)] W fun e a=>e=.returned (.int .i64 (L.length:Int))/\a=W:=by
 have b:=CW h;have c:=gA mb W;go_enter func149,ntmps149
 go_wp2_with (first|(go_at_call 167;refine c.mono ?_;rintro e a⟨rfl,d⟩;subst a)|(go_at_call 171;refine b.mono ?_;rintro e a⟨rfl,d⟩;subst a))
 go_ret;exact⟨rfl,rfl⟩
end Go.Proofs.YthlccadnojnkaaaGreat.Co.S
namespace Go.Proofs.YthlccadnojnkaaaGreat.Co
open Go.Proofs.Tryz
open Go Go.Proofs
section
variable {M:Nat}
theorem lZ{a b:K M}(h:keyOf a=keyOf b):a=b:=Subtype.ext (I8.1 h)
def AG(l:List (K M)):Prop:=l.Pairwise (fun a b=>keyOf a<keyOf b)
abbrev keys(L:List (K M×Int)):List (K M):=L.map Prod.fst
theorem vZ{L:List (K M×Int)}(h:Srt keyOf L):AG (keys L):=by
 unfold AG;rw[List.pairwise_map];exact h
namespace S
theorem Dt{s:K M}:∀{L:List (K M×Int)},has s L=true↔s∈keys L
 | []=>by simp[has,dq]
 | (a,w)::r=>by
  have b:=Dt (s:=s) (L:=r);unfold has at b ⊢;rw[dq];by_cases h:keyOf a=keyOf s
  ·rw[zv h,lZ h];simp
  ·have c:s≠a:=(fun e=>h (by rw[e]));rw[zq h,b];simp[c]
theorem cS(s a:K M)(w:Int)(r:List (K M×Int)):tm s ((a,w)::r)=if a=s then w else tm s r:=by
 unfold tm;rw[dq];by_cases h:keyOf a=keyOf s
 ·rw[zv h,zv (lZ h)];rfl
 have b:a≠s:=(fun e=>h (by rw[e]));rw[zq h,zq b]
theorem wB{s:K M}:∀{L:List (K M×Int)},(∀p∈L,keyOf s<keyOf p.1)->tm s L=0
 | [],_=>rfl
 | (a,w)::r,h=>by
  have b:keyOf s<keyOf a:=h (a,w) (by simp);rw[cS,zq (fun e=>by rw[e]at b;omega),wB (fun p c=>h p (by simp[c]))]
theorem yZ(s:K M)(v:Int)(t:K M):∀{L:List (K M×Int)},Srt keyOf L->tm t (fp keyOf s v L)=if s=t then v else tm t L
 | [],_=>by rw[fp,cS,sH]
 | (a,w)::r,h=>by
  unfold Srt at h;rw[ww]at h;have g:=yZ s v t h.2;rw[fp];by_cases d:keyOf s<keyOf a
  ·rw[zv d,cS]
  ·by_cases f:keyOf a<keyOf s
   ·rw[zq d,zv f,cS,g,cS];by_cases b:a=t
    ·have:¬ s=t:=(fun e=>by rw[<-b]at e;rw[e]at f;omega);rw[zv b,zq this,zv b]
    ·rw[zq b];by_cases c:s=t
     ·rw[zv c,zv c]
     ·rw[zq c,zq c,zq b]
   ·have i:a=s:=lZ (by omega);subst i;rw[zq d,zq f,cS,cS];by_cases b:a=t
    ·rw[zv b,zv b]
    ·rw[zq b,zq b,zq b]
theorem CH(s t:K M):∀{L:List (K M×Int)},Srt keyOf L->tm t (ib keyOf s L)=if s=t then 0 else tm t L
 | [],_=>by rw[ib,sH];split <;> rfl
 | (a,w)::r,h=>by
  unfold Srt at h;rw[ww]at h;have d:=CH s t h.2;rw[ib];by_cases c:keyOf a=keyOf s
  ·have f:a=s:=lZ c;subst f;rw[zv c,cS];by_cases b:a=t
   ·subst b;rw[zv rfl];exact wB (fun p g=>h.1 p g)
   ·rw[zq b,zq b]
  ·rw[zq c,cS,d,cS];by_cases b:a=t
   ·have:¬ s=t:=(fun e=>c (by rw[b,e]));rw[zv b,zq this,zv b]
   ·rw[zq b,zq b]
def cnt(s:K M)(l:List (K M)):Nat:=(l.filter (fun t=>decide (t=s))).length
def Cnt(l:List (K M))(L:List (K M×Int)):Prop:=∀s,tm s L=(cnt s l:Int)
theorem Dm.srt{W0 W:World}{mb:Nat}{L:List (K M×Int)}(h:Dm W0 mb L W):Srt keyOf L:=by obtain⟨cv,a,_⟩:=h.mp;exact a.srt
theorem Gl(s:K M){L:List (K M×Int)}(h:Srt keyOf L):Srt keyOf (nk s L):=by
 unfold nk;split
 ·exact h.ins
 exact h.del
theorem D1(s t:K M){L:List (K M×Int)}(h:Srt keyOf L)(hp:0<=tm s L):tm t (nk s L)=if s=t then(if 1<=tm s L then tm s L-1 else 0)else tm t L:=by
 unfold nk;by_cases a:1<tm s L
 ·rw[zv a,yZ s _ t h];by_cases e:s=t
  ·rw[zv e,zv e,zv (by omega)]
  rw[zq e,zq e]
 rw[zq a,CH s t h];by_cases e:s=t
 ·rw[zv e,zv e];split <;> omega
 rw[zq e,zq e]
theorem wC(s:K M){L:List (K M×Int)}(h:Srt keyOf L):(nk s L).length<=L.length:=by
 unfold nk;split
 ·rename_i a
  have:=eR (v:=tm s L-1) (k:=s) h
  have b:(dq keyOf s L).isSome=true:=by
   unfold tm at a;cases c:dq keyOf s L with
   | none=>rw[c]at a;simp at a
   | some v=>rfl
  rw[zv b]at this;omega
 have:=eS (key:=keyOf) (k:=s) (L:=L)
 omega
theorem Dm.ty{W0 W:World}{mb:Nat}{L:List (K M×Int)}(h:Dm W0 mb L W):Ty W mb:=by obtain⟨cv,a,_⟩:=h.mp;exact a.ty
theorem Tr.mi{W W':World}{B:Nat}(hb:∀(b:Nat) (cs:Array Value),W.heap[b]?=some (Obj.cells cs 220)->W'.heap[b]?=W.heap[b]?):∀{t:T (K M) Int} {p:Option Addr},Tr W B t p->Tr W' B t p
 | .nil,_,h=>h
 | .nd _ _ _ _,_,⟨b,lp,rp,h1,h2,h3,h4,h5⟩=>⟨b,lp,rp,h1,h2,(hb b _ h3).trans h3,Tr.mi hb h4,Tr.mi hb h5⟩
end S
end
