import Derived.Test.YthlccadnojnkaaaGreatZn5
import Derived.WalkKit
import Derived.ProofKit
import Derived.BigQuiet
import Derived.StillTailTactics
import Derived.Deep.Cut
import Derived.Deep.RegionHeld3
set_option maxHeartbeats 1000000
set_option maxRecDepth 100000
namespace Go.Proofs.YthlccadnojnkaaaGreat.Co.S
open Go.Proofs.Tryz
open Go Go.RowKit Go.Proofs Go.Proofs.YthlccadnojnkaaaGreat Go.Proofs.YthlccadnojnkaaaGreat.Co
variable {M:Nat}
def Tr(W:World)(B:Nat):T (K M) Int->Option Addr->Prop
 | .nil,p=>p=none
 | .nd k v l r,p=>∃(b:Nat) (lp rp:Option Addr),p=some ⟨b,0,none⟩/\B<=b/\W.heap[b]?=some (.cells #[.string (k).1,.int .i64 v,.int .i64 ((l.size+1+r.size:Nat):Int),.pointer lp,.pointer rp] 220)/\Tr W B l lp/\Tr W B r rp
theorem aC{W:World}{b:Nat}{o:Obj}(h:W.heap[b]?=some o):b<W.heap.size:=(Array.getElem?_eq_some_iff.1 h).1
theorem Tr.of{W W':World}{B:Nat}(hb:∀b,B<=b->b<W.heap.size->W'.heap[b]?=W.heap[b]?):∀{t:T (K M) Int} {p:Option Addr},Tr W B t p->Tr W' B t p
 | .nil,_,h=>h
 | .nd _ _ _ _,_,⟨b,lp,rp,h1,h2,h3,h4,h5⟩=>⟨b,lp,rp,h1,h2,(hb b h2 (aC h3)).trans h3,Tr.of hb h4,Tr.of hb h5⟩
theorem Tr.later{W W':World}{B:Nat}{t:T (K M) Int}{p:Option Addr}(h:Tr W B t p)(hb:Below W.heap.size W W'):Tr W' B t p:=Tr.of (fun b _ h=>hb.block b h) h
theorem Tr.drewN{W:World}{B:Nat}{t:T (K M) Int}{p:Option Addr}(h:Tr W B t p)(q:Nat):Tr (W.drewN q) B t p:=Tr.of (W:=W) (W':=W.drewN q) (fun _ _ _=>rfl) h
theorem Tr.drew{W:World}{B:Nat}{t:T (K M) Int}{p:Option Addr}(h:Tr W B t p):Tr W.drew B t p:=Tr.of (W:=W) (W':=W.drew) (fun _ _ _=>rfl) h
theorem aA{W:World}{b:Nat}{cs:Array Value}{t:TypeId}(h:W.heap[b]?=some (.cells cs t))(i:Nat):W.cell? ⟨b,i,none⟩=cs[i]?:=by simp[World.cell?,h]
structure Nd (W:World) (b:Nat) (k:K M) (v:Int) (n:Int) (lp rp:Option Addr):Prop where
 c0:W.cell? ⟨b,0,none⟩=some (.string (k).1)
 c1:W.cell? ⟨b,1,none⟩=some (.int .i64 v)
 c2:W.cell? ⟨b,2,none⟩=some (.int .i64 n)
 c3:W.cell? ⟨b,3,none⟩=some (.pointer lp)
 c4:W.cell? ⟨b,4,none⟩=some (.pointer rp)
theorem eH{W:World}{b:Nat}{k:K M}{v:Int}{n:Int}{lp rp:Option Addr}{t:TypeId}(h:W.heap[b]?=some (.cells #[.string (k).1,.int .i64 v,.int .i64 n,.pointer lp,.pointer rp] t)):Nd W b k v n lp rp:=
 ⟨aA h 0,aA h 1,aA h 2,aA h 3,aA h 4⟩
theorem Nd.lt{W:World}{b:Nat}{k:K M}{v:Int}{n:Int}{lp rp:Option Addr}(h:Nd W b k v n lp rp):b<W.heap.size:=xn W ⟨b,0,none⟩ h.c0
theorem Nd.of{W W':World}{b:Nat}{k:K M}{v:Int}{n:Int}{lp rp:Option Addr}(h:Nd W b k v n lp rp)(hb:W'.heap[b]?=W.heap[b]?):Nd W' b k v n lp rp:=
 ⟨(za (w:=W) hb).trans h.c0,(za (w:=W) hb).trans h.c1,(za (w:=W) hb).trans h.c2,(za (w:=W) hb).trans h.c3,(za (w:=W) hb).trans h.c4⟩
theorem Nd.later{W W':World}{b:Nat}{k:K M}{v:Int}{n:Int}{lp rp:Option Addr}(h:Nd W b k v n lp rp)(hb:Below W.heap.size W W'):Nd W' b k v n lp rp:=h.of (hb.block b h.lt)
theorem aB{W A B:World}(h:Below W.heap.size W A)(k:Below A.heap.size A B):Below W.heap.size W B:=h.trans (k.mono h.size)
theorem aD(W:World)(o:Obj):Below W.heap.size W (W.alloc o):=(zb _ W).alloc (zm _) o
theorem aG(W:World)(q:Nat):Below W.heap.size W (W.drewN q):=⟨rfl,rfl,rfl,zm _,fun _ _=>rfl⟩
theorem bB(t:T (K M) Int)(p:Option Addr)(B:Nat)(W:World)(h:Tr W B t p):Calls prog 187 #[.pointer p] W fun e a=>e=.returned (.int .i64 (t.size:Int))/\a=W:=by
 cases t with
 | nil =>
  obtain rfl:p=none:=h;go_enter func187,ntmps187
  go_wp2
  go_ret;exact⟨rfl,rfl⟩
 | nd k v l r =>
  obtain⟨b,lv,rv,rfl,_,c,_,_⟩:=h;have d:=(eH c).c2;show Calls prog 187 _ W fun e a=>e=.returned (.int .i64 ((l.size+1+r.size:Nat):Int))/\a=W
  generalize l.size+1+r.size=n at d;go_enter func187,ntmps187
  go_wp2
  go_ret;exact⟨rfl,rfl⟩
theorem cN(t:T (K M) Int)(p:Option Addr)(B:Nat)(hs:t.size<=1000000)(W:World)(h:Tr W B t p):Calls prog 215 #[.pointer p] W fun e b=>e=.returned (.int .i64 ((t.size+1:Nat):Int))/\b=W:=by
 have a:=bB t p B W h;generalize t.size=n at hs a;go_enter func215,ntmps215;go_wp2_with (go_at_call 187;refine a.mono ?_;rintro e c⟨rfl,rfl⟩);go_ret;exact⟨by simp,rfl⟩
def Makes(W:World)(B:Nat)(t:T (K M) Int)(e:Ending)(W':World):Prop:=∃p,e=.returned (.pointer p)/\Tr W' B t p/\Below W.heap.size W W'
theorem yP(W:World)(B:Nat)(hB:B<=W.heap.size)(k:K M)(v:Int)(l r:T (K M) Int)(n:Int)(hn:n=((l.size+1+r.size:Nat):Int))(lp rp:Option Addr)(h1:Tr W B l lp)(h2:Tr W B r rp):Tr (W.alloc (.cells #[.string (k).1,.int .i64 v,.int .i64 n,.pointer lp,.pointer rp] 220)) B (.nd k v l r) (some ⟨W.heap.size,0,none⟩):=
 ⟨W.heap.size,lp,rp,rfl,hB,by rw[hn];exact z7 W _,h1.later (aD W _),h2.later (aD W _)⟩
theorem bI(b:Nat)(k:K M)(v:Int)(n:Int)(xl xr:Option Addr)(l r:T (K M) Int)(pl pr:Option Addr)(B:Nat)(hl:l.size<=1000000)(hr:r.size<=1000000)(W:World)(hB:B<=W.heap.size)(hb:Nd W b k v n xl xr)(h1:Tr W B l pl)(h2:Tr W B r pr):Calls prog 218 #[.pointer (some ⟨b,0,none⟩),.pointer pl,.pointer pr] W (Makes W B (.nd k v l r)):=by
 have c1:=bB l pl B W.drew h1.drew;have c2:=bB r pr B W.drew h2.drew;have d:=aa (ab hB (ab h1 h2));have i:∀o,(W.alloc o).cell? ⟨b,0,none⟩=some (.string (k).1)/\(W.alloc o).cell? ⟨b,1,none⟩=some (.int .i64 v):=(fun o=>⟨(hb.later (aD W o)).c0,(hb.later (aD W o)).c1⟩);obtain⟨f,g,_,_,_⟩:=hb;obtain⟨nl,a⟩:=ag l.size;obtain⟨j,c⟩:=ag r.size;rw[a]at c1 hl;rw[c]at c2 hr;have h:=aa (ab a c);clear a c hB h1 h2;go_enter func218,ntmps218;go_wp2_with fail
 go_region_held3 (fun w=>w.cell? ⟨b,0,none⟩=some (.string (k).1)/\w.cell? ⟨b,1,none⟩=some (.int .i64 v)) (first|exact⟨f,g⟩ | exact i _) (first|(go_at_call 187;(with_reducible refine c1.mono ?_);rintro e m⟨rfl,rfl⟩)|(go_at_call 187;(with_reducible refine c2.mono ?_);rintro e m⟨rfl,rfl⟩))
 go_wp2_with fail;go_ret;exact⟨_,rfl,(yP W B d.1 k v l r _ (by rw[Go.IntWalk.i64_left,Go.IntWalk.i64_left,Go.IntWalk.wrap64_in ((nl:Int)+1) (by omega),Go.IntWalk.wrap64_in ((nl:Int)+1+j) (by omega),h.1,h.2];omega) pl pr d.2.1 d.2.2).drew,(aD W _).drew⟩
variable {M:Nat}
def mw(W:World)(B:Nat)(L:List (K M×Int))(e:Ending)(W':World):Prop:=∃t p,e=.returned (.pointer p)/\Tr W' B t p/\t.fj=L/\Below W.heap.size W W'
theorem bS{t:T (K M) Int}{L:List (K M×Int)}(h:t.fj=L):t.size=L.length:=by rw[<-h,T.len]
theorem Gi(b:Nat)(k:K M)(v:Int)(n:Int)(xl xr:Option Addr)(l r:T (K M) Int)(pl pr:Option Addr)(B:Nat)(hr0:r≠.nil)(hs:l.size+1+r.size<=1000000)(W:World)(hB:B<=W.heap.size)(hb:Nd W b k v n xl xr)(h1:Tr W B l pl)(h2:Tr W B r pr):Calls prog 216 #[.pointer (some ⟨b,0,none⟩),.pointer pl,.pointer pr] W (mw W B (l.fj++(k,v)::r.fj)):=by
 cases r with
 | nil=>exact absurd rfl hr0
 | nd k2 v2 il ol =>
  obtain⟨b2,J,A,rfl,f,E,L,N⟩:=h2;have F:=eH E;have a0:l.size+1+(il.size+1+ol.size)<=1000000:=hs;have O:=(fun q=>cN il J B (by omega) (W.drewN q) (L.drewN q));have Y:=(fun q=>cN ol A B (by omega) (W.drewN q) (N.drewN q));have g:=aa (ab hb (ab h1 (ab F (ab L (ab N hB)))));clear hb h1 L N hB E;obtain⟨_,_,_,c3,c4⟩:=F;go_enter func216,ntmps216;go_wp2_with fail
  go_quiet (fail)
  clear c3 c4;by_cases hw:il.size+1<2*(ol.size+1)
  ·have G:((il.size:Int)+1)<2*((ol.size:Int)+1):=(by omega);have b1:=bI b k v n xl xr l il pl J B (by omega) (by omega) (W.drewN nq) g.2.2.2.2.2 (g.1.later (aG W nq)) (g.2.1.drewN nq) (g.2.2.2.1.drewN nq)
   go_wp2_with (first|(go_at_call 215;(with_reducible refine(O _).mono ?_);rintro e y⟨rfl,rfl⟩)|(go_at_call 215;(with_reducible refine(Y _).mono ?_);rintro e y⟨rfl,rfl⟩)|(go_at_call 218;(with_reducible refine b1.mono ?_);clear b1;rintro e y⟨P,rfl,h,d⟩;have d:=aB (aG W nq) d;have i:=bI b2 k2 v2 _ J A (.nd k v l il) ol P A B (by show l.size+1+il.size<=1000000;omega) (by omega) y (zw g.2.2.2.2.2 d.size) (g.2.2.1.later d) h (g.2.2.2.2.1.later d))|(go_at_call 218;(with_reducible refine i.mono ?_);clear i;rintro e Z⟨Q,rfl,z,f⟩))
   go_ret;exact⟨_,Q,rfl,z,by simp[T.fj],aB d f⟩
  ·have G:¬ ((il.size:Int)+1)<2*((ol.size:Int)+1):=(by omega);cases il with
   | nil=>exact absurd hw (by simp[T.size];omega)
   | nd k3 v3 a c =>
    obtain⟨R,S,U,rfl,j,H,V,hc⟩:=g.2.2.2.1;have o:=eH H;have a1:l.size+1+(a.size+1+c.size+1+ol.size)<=1000000:=hs;have b1:=bI b k v n xl xr l a pl S B (by omega) (by omega) (W.drewN (nq+1)) g.2.2.2.2.2 (g.1.later (aG W (nq+1))) (g.2.1.drewN (nq+1)) (V.drewN (nq+1));have p:=aa (ab V (ab hc o));have s:=o.later (aG W nq);have t:=o.later (aG W (nq+1));clear V hc H o;generalize (T.nd k3 v3 a c).size=zi at O G
    go_upto_region 4 with (first|(go_at_call 215;(with_reducible refine(O _).mono ?_);rintro e y⟨rfl,rfl⟩)|(go_at_call 215;(with_reducible refine(Y _).mono ?_);rintro e y⟨rfl,rfl⟩))
    go_region_held3 (fun w=>w.cell? ⟨R,3,none⟩=some (.pointer S)/\w.cell? ⟨R,4,none⟩=some (.pointer U)) (first|exact⟨s.c3,s.c4⟩ | exact⟨u.c3,u.c4⟩ | exact⟨m.c3,m.c4⟩ | exact⟨x.c3,x.c4⟩ | exact⟨t.c3,t.c4⟩) (first|(go_at_call 218;(with_reducible refine b1.mono ?_);clear b1;rintro e y⟨P,rfl,h,d⟩;have d:=aB (aG W (nq+1)) d;have u:=p.2.2.later d;have i:=bI b2 k2 v2 _ _ A c ol U A B (by omega) (by omega) y (zw g.2.2.2.2.2 d.size) (g.2.2.1.later d) (p.2.1.later d) (g.2.2.2.2.1.later d))|(go_at_call 218;(with_reducible refine i.mono ?_);clear i;rintro e Z⟨Q,rfl,z,f⟩;have h:=h.later f;have f:=aB d f;have m:=p.2.2.later f;have I:=bI R k3 v3 _ S U (.nd k v l a) (.nd k2 v2 c ol) P Q B (by show l.size+1+a.size<=1000000;omega) (by show c.size+1+ol.size<=1000000;omega) Z (zw g.2.2.2.2.2 f.size) m h z)|(go_at_call 218;(with_reducible refine I.mono ?_);clear I;rintro e x3⟨p3,rfl,X,j⟩;have j:=aB f j;have x:=p.2.2.later j))
    go_wp2_with fail;go_ret;exact⟨_,p3,rfl,X,by simp[T.fj],j⟩
variable {M:Nat}
theorem GT(b:Nat)(k:K M)(v:Int)(n:Int)(xl xr:Option Addr)(l r:T (K M) Int)(pl pr:Option Addr)(B:Nat)(hl0:l≠.nil)(hs:l.size+1+r.size<=1000000)(W:World)(hB:B<=W.heap.size)(hb:Nd W b k v n xl xr)(h1:Tr W B l pl)(h2:Tr W B r pr):Calls prog 217 #[.pointer (some ⟨b,0,none⟩),.pointer pl,.pointer pr] W (mw W B (l.fj++(k,v)::r.fj)):=by
 cases l with
 | nil=>exact absurd rfl hl0
 | nd k2 v2 ol il =>
  obtain⟨b2,I,J,rfl,f,A,L,N⟩:=h1;have E:=eH A;have a0:(ol.size+1+il.size)+1+r.size<=1000000:=hs;have O:=(fun q=>cN il J B (by omega) (W.drewN q) (N.drewN q));have Y:=(fun q=>cN ol I B (by omega) (W.drewN q) (L.drewN q));have g:=aa (ab hb (ab h2 (ab E (ab N (ab L hB)))));clear hb h2 N L hB A;obtain⟨_,_,_,c3,c4⟩:=E;go_enter func217,ntmps217;go_wp2_with fail
  go_quiet (fail)
  clear c3 c4;by_cases hw:il.size+1<2*(ol.size+1)
  ·have F:((il.size:Int)+1)<2*((ol.size:Int)+1):=(by omega);have b1:=bI b k v n xl xr il r J pr B (by omega) (by omega) (W.drewN nq) g.2.2.2.2.2 (g.1.later (aG W nq)) (g.2.2.2.1.drewN nq) (g.2.1.drewN nq)
   go_wp2_with (first|(go_at_call 215;(with_reducible refine(O _).mono ?_);rintro e y⟨rfl,rfl⟩)|(go_at_call 215;(with_reducible refine(Y _).mono ?_);rintro e y⟨rfl,rfl⟩)|(go_at_call 218;(with_reducible refine b1.mono ?_);clear b1;rintro e y⟨P,rfl,h,d⟩;have d:=aB (aG W nq) d;have i:=bI b2 k2 v2 _ I J ol (.nd k v il r) I P B (by omega) (by show il.size+1+r.size<=1000000;omega) y (zw g.2.2.2.2.2 d.size) (g.2.2.1.later d) (g.2.2.2.2.1.later d) h)|(go_at_call 218;(with_reducible refine i.mono ?_);clear i;rintro e Z⟨Q,rfl,z,f⟩))
   go_ret;exact⟨_,Q,rfl,z,by simp[T.fj],aB d f⟩
  ·have F:¬ ((il.size:Int)+1)<2*((ol.size:Int)+1):=(by omega);cases il with
   | nil=>exact absurd hw (by simp[T.size];omega)
   | nd k3 v3 a c =>
    obtain⟨R,S,U,rfl,j,G,V,hc⟩:=g.2.2.2.1;have o:=eH G;have a1:(ol.size+1+(a.size+1+c.size))+1+r.size<=1000000:=hs;have b1:=bI b2 k2 v2 _ _ _ ol a I S B (by omega) (by omega) (W.drewN (nq+1)) g.2.2.2.2.2 (g.2.2.1.later (aG W (nq+1))) (g.2.2.2.2.1.drewN (nq+1)) (V.drewN (nq+1));have p:=aa (ab V (ab hc o));have s:=o.later (aG W nq);have t:=o.later (aG W (nq+1));clear V hc G o;generalize (T.nd k3 v3 a c).size=zi at O F
    go_upto_region 4 with (first|(go_at_call 215;(with_reducible refine(O _).mono ?_);rintro e y⟨rfl,rfl⟩)|(go_at_call 215;(with_reducible refine(Y _).mono ?_);rintro e y⟨rfl,rfl⟩))
    go_region_held3 (fun w=>w.cell? ⟨R,3,none⟩=some (.pointer S)/\w.cell? ⟨R,4,none⟩=some (.pointer U)) (first|exact⟨s.c3,s.c4⟩ | exact⟨u.c3,u.c4⟩ | exact⟨m.c3,m.c4⟩ | exact⟨x.c3,x.c4⟩ | exact⟨t.c3,t.c4⟩) (first|(go_at_call 218;(with_reducible refine b1.mono ?_);clear b1;rintro e y⟨P,rfl,h,d⟩;have d:=aB (aG W (nq+1)) d;have u:=p.2.2.later d;have i:=bI b k v _ _ _ c r U pr B (by omega) (by omega) y (zw g.2.2.2.2.2 d.size) (g.1.later d) (p.2.1.later d) (g.2.1.later d))|(go_at_call 218;(with_reducible refine i.mono ?_);clear i;rintro e Z⟨Q,rfl,z,f⟩;have h:=h.later f;have f:=aB d f;have m:=p.2.2.later f;have H:=bI R k3 v3 _ S U (.nd k2 v2 ol a) (.nd k v c r) P Q B (by show ol.size+1+a.size<=1000000;omega) (by show c.size+1+r.size<=1000000;omega) Z (zw g.2.2.2.2.2 f.size) m h z)|(go_at_call 218;(with_reducible refine H.mono ?_);clear H;rintro e x3⟨p3,rfl,X,j⟩;have j:=aB f j;have x:=p.2.2.later j))
    go_wp2_with fail;go_ret;exact⟨_,p3,rfl,X,by simp[T.fj],j⟩
theorem bK(b:Nat)(k:K M)(v:Int)(n:Int)(xl xr:Option Addr)(l r:T (K M) Int)(pl pr:Option Addr)(B:Nat)(hs:l.size+1+r.size<=1000000)(W:World)(hB:B<=W.heap.size)(hb:Nd W b k v n xl xr)(h1:Tr W B l pl)(h2:Tr W B r pr):Calls prog 207 #[.pointer (some ⟨b,0,none⟩),.pointer pl,.pointer pr] W (mw W B (l.fj++(k,v)::r.fj)):=by
 have d:=cN l pl B (by omega) W h1;have wr:=cN r pr B (by omega) W h2;by_cases c1:3*(l.size+1)<r.size+1
 ·have f:3*((l.size:Int)+1)<(r.size:Int)+1:=(by omega);have c:=Gi b k v n xl xr l r pl pr B (by intro e;rw[e]at c1;simp[T.size]at c1) hs W hB hb h1 h2;go_enter func207,ntmps207
  go_wp2_with (first|(go_at_call 215;(with_reducible refine wr.mono ?_);rintro e a⟨rfl,rfl⟩)|(go_at_call 215;(with_reducible refine d.mono ?_);rintro e a⟨rfl,rfl⟩)|(go_at_call 216;refine c.mono ?_;rintro e a⟨t,p,rfl,h⟩))
  go_ret;exact⟨t,p,rfl,h⟩
 have f:¬ 3*((l.size:Int)+1)<(r.size:Int)+1:=(by omega);by_cases c2:3*(r.size+1)<l.size+1
 ·have g:3*((r.size:Int)+1)<(l.size:Int)+1:=(by omega);have c:=GT b k v n xl xr l r pl pr B (by intro e;rw[e]at c2;simp[T.size]at c2) hs W hB hb h1 h2;go_enter func207,ntmps207
  go_wp2_with (first|(go_at_call 215;(with_reducible refine wr.mono ?_);rintro e a⟨rfl,rfl⟩)|(go_at_call 215;(with_reducible refine d.mono ?_);rintro e a⟨rfl,rfl⟩)|(go_at_call 217;refine c.mono ?_;rintro e a⟨t,p,rfl,h⟩))
  go_ret;exact⟨t,p,rfl,h⟩
 have g:¬ 3*((r.size:Int)+1)<(l.size:Int)+1:=(by omega);have c:=bI b k v n xl xr l r pl pr B (by omega) (by omega) W hB hb h1 h2;go_enter func207,ntmps207
 go_wp2_with (first|(go_at_call 215;(with_reducible refine wr.mono ?_);rintro e a⟨rfl,rfl⟩)|(go_at_call 215;(with_reducible refine d.mono ?_);rintro e a⟨rfl,rfl⟩)|(go_at_call 218;refine c.mono ?_;rintro e a⟨p,rfl,j,i⟩))
 go_ret;exact⟨_,p,rfl,j,rfl,i⟩
variable {M:Nat}
theorem DO(B:Nat):∀(t:T (K M) Int) (p:Option Addr) (W:World),t≠.nil->t.size<=1000000->B<=W.heap.size->Tr W B t p->Calls prog 221 #[.pointer p] W (mw W B t.fj.tail)
 | .nil,_,_,h,_,_,_=>absurd rfl h
 | .nd k v .nil r,p,W,_,_,_,h=>by
  obtain⟨b,s,l,rfl,_,m,n,o⟩:=h;obtain rfl:s=none:=n;obtain⟨_,_,_,c3,c4⟩:=eH m;go_enter func221,ntmps221;go_wp2_with fail;go_ret;exact⟨r,l,rfl,o,rfl,.refl _ _⟩
 | .nd k v (.nd k2 v2 l2 r2) r,p,W,_,hs,hB,h=>by
  obtain⟨b,s,l,rfl,_,m,n,o⟩:=h;have u:=eH m;have E:(l2.size+1+r2.size)+1+r.size<=1000000:=hs;have A:=DO B (.nd k2 v2 l2 r2) s W.drew (by simp) (by show l2.size+1+r2.size<=1000000;omega) hB n.drew;have q:=aa (ab u (ab o hB));obtain⟨bl,_,_,rfl,_⟩:=n;have f:=u.later (zb _ W).drew;obtain⟨_,_,_,c3,c4⟩:=u;clear m o;go_enter func221,ntmps221;go_wp2_with fail
  go_region_held3 (fun w=>w.cell? ⟨b,3,none⟩=some (.pointer (some ⟨bl,0,none⟩))/\w.cell? ⟨b,4,none⟩=some (.pointer l)) (first|exact⟨c3,c4⟩ | exact⟨f.c3,f.c4⟩ | exact⟨d.c3,d.c4⟩ | exact⟨g.c3,g.c4⟩) (first|(go_at_call 221;(with_reducible refine A.mono ?_);clear A;rintro e F⟨G,H,rfl,x,i,a⟩;have a:=aB (zb _ W).drew a;have d:=q.1.later a;have j:=bK b k v _ _ _ G r H l B (by have:=bS i;rw[List.length_tail,T.len]at this;simp only[T.size]at this;omega) F (zw q.2.2 a.size) d x (q.2.1.later a))|(go_at_call 207;(with_reducible refine j.mono ?_);clear j;rintro e L⟨I,J,rfl,y,z,c⟩;have c:=aB a c;have g:=q.1.later c))
  go_wp2_with fail;go_ret;refine⟨I,J,rfl,y,?_,c⟩;rw[z,i];show _=((T.nd k2 v2 l2 r2).fj++(k,v)::r.fj).tail;rw[List.tail_append_of_ne_nil (by simp[T.fj])]
theorem Dj(B:Nat):∀(t:T (K M) Int) (p:Option Addr) (W:World),t≠.nil->t.size<=1000000->B<=W.heap.size->Tr W B t p->Calls prog 220 #[.pointer p] W (mw W B t.fj.dropLast)
 | .nil,_,_,h,_,_,_=>absurd rfl h
 | .nd k v l .nil,p,W,_,_,_,h=>by
  obtain⟨b,m,s,rfl,_,n,o,q⟩:=h;obtain rfl:s=none:=q;obtain⟨_,_,_,c3,c4⟩:=eH n;go_enter func220,ntmps220;go_wp2_with fail;go_ret;exact⟨l,m,rfl,o,by simp[T.fj],.refl _ _⟩
 | .nd k v l (.nd k2 v2 l2 r2),p,W,_,hs,hB,h=>by
  obtain⟨b,m,s,rfl,_,n,o,q⟩:=h;have u:=eH n;have E:l.size+1+(l2.size+1+r2.size)<=1000000:=hs;have A:=Dj B (.nd k2 v2 l2 r2) s W.drew (by simp) (by show l2.size+1+r2.size<=1000000;omega) hB q.drew;have r:=aa (ab u (ab o hB));obtain⟨bl,_,_,rfl,_⟩:=q;have f:=u.later (zb _ W).drew;obtain⟨_,_,_,c3,c4⟩:=u;clear n o;go_enter func220,ntmps220;go_wp2_with fail
  go_region_held3 (fun w=>w.cell? ⟨b,3,none⟩=some (.pointer m)/\w.cell? ⟨b,4,none⟩=some (.pointer (some ⟨bl,0,none⟩))) (first|exact⟨c3,c4⟩ | exact⟨f.c3,f.c4⟩ | exact⟨d.c3,d.c4⟩ | exact⟨g.c3,g.c4⟩) (first|(go_at_call 220;(with_reducible refine A.mono ?_);clear A;rintro e F⟨G,H,rfl,x,i,a⟩;have a:=aB (zb _ W).drew a;have d:=r.1.later a;have j:=bK b k v _ _ _ l G m H B (by have:=bS i;rw[List.length_dropLast,T.len]at this;simp only[T.size]at this;omega) F (zw r.2.2 a.size) d (r.2.1.later a) x)|(go_at_call 207;(with_reducible refine j.mono ?_);clear j;rintro e L⟨I,J,rfl,y,z,c⟩;have c:=aB a c;have g:=r.1.later c))
  go_wp2_with fail;go_ret;refine⟨I,J,rfl,y,?_,c⟩;rw[z,i];show _=(l.fj++(k,v)::(T.nd k2 v2 l2 r2).fj).dropLast;rw[List.dropLast_append_of_ne_nil (by simp),List.dropLast_cons_of_ne_nil (by simp[T.fj])]
def look(L:List (K M×Int))(i:Int):Option (K M×Int):=if 0<=i then L[i.toNat]? else none
def Found(W:World)(B:Nat):Option (K M×Int)->Option Addr->Prop
 | none,q=>q=none
 | some kv,q=>∃b n lp rp,q=some ⟨b,0,none⟩/\B<=b/\Nd W b kv.1 kv.2 n lp rp
def AH(w:World):Value->Nat
 | .pointer (some a)=>match w.cell? ⟨a.block,2,none⟩with | some (.int _ n)=>n.toNat | _=>0
 | _=>0
theorem gQ{W:World}{B:Nat}{t:T (K M) Int}{p:Option Addr}(h:Tr W B t p):AH W (.pointer p)=t.size:=by
 cases t with
 | nil=>obtain rfl:p=none:=h;rfl
 | nd k v l r =>
  obtain⟨b,c,d,rfl,_,a,_⟩:=h;simp only[AH,(eH a).c2,T.size];omega
theorem Gf{L R:List (K M×Int)}{kv:K M×Int}{i:Int}(h:i<L.length):look (L++kv::R) i=look L i:=by
 unfold look;split
 ·rw[wf (by omega)]
 rfl
theorem rW{L R:List (K M×Int)}{kv:K M×Int}{i:Int}(h:i=L.length):look (L++kv::R) i=some kv:=by
 unfold look;rw[zv (by omega),h]
 simp
theorem yQ{L R:List (K M×Int)}{kv:K M×Int}{i:Int}(h:(L.length:Int)<i):look (L++kv::R) i=look R (i-(L.length+1)):=by
 unfold look;rw[zv (by omega),zv (by omega),ye (by omega)];obtain⟨j,a⟩:∃j:Nat,i.toNat-L.length=j+1:=⟨i.toNat-L.length-1,by omega⟩;rw[a,List.getElem?_cons_succ]
 congr 1
 omega
theorem look_nil(i:Int):look ([]:List (K M×Int)) i=none:=by unfold look;split <;> rfl
theorem CI(B:Nat)(t:T (K M) Int)(p:Option Addr)(i:Int)(hi0:-9223372036854775808<=i)(hi1:i<=9223372036854775807)(hs:t.size<=1000000)(W:World)(h:Tr W B t p):Calls prog 219 #[.pointer p,.int .i64 i] W fun e P=>P=W/\∃q,e=.returned (.pointer q)/\Found W B (look t.fj i) q:=by
 go_enter func219,ntmps219;go_wp2_with fail
 go_loopw [0,1] (fun pv iv w=>∃(j:T (K M) Int) (x:Option Addr) (d:Int),pv=.pointer x/\iv=.int .i64 d/\w=W/\Tr W B j x/\j.size<=1000000/\-9223372036854775808<=d/\d<=9223372036854775807/\look t.fj i=look j.fj d) (fun pv _ w=>AH w pv)
 case atStart=>exact⟨t,p,i,rfl,rfl,rfl,h,hs,hi0,hi1,rfl⟩
 obtain⟨j,x,d,rfl,rfl,rfl,y,z,A,E,a⟩:=hrel;have m:=gQ y;cases j with
 | nil =>
  obtain rfl:x=none:=y;go_wp2_with fail;go_ret;exact⟨rfl,none,rfl,by rw[a,T.fj,look_nil];rfl⟩
 | nd k v l r =>
  obtain⟨b,I,Q,rfl,R,J,F,L⟩:=y;have N:=eH J;have S:=aa N;have cl:=bB l I B wr F;have G:l.size+1+r.size<=1000000:=z;have g:=gQ F;have n:=gQ L;have o:=T.len l;obtain⟨H,s⟩:=ag l.size;rw[s]at cl g o G;obtain⟨_,_,_,c3,c4⟩:=N;have c:=aa m;have u:=aa (ab g n);clear m g n J;have f:(T.nd k v l r).size=H+1+r.size:=(by show l.size+1+r.size=_;rw[s]);rcases Int.lt_trichotomy d (H:Int)with U|V|X
  ·go_wp2_with (go_at_call 187;refine cl.mono ?_;rintro e O⟨rfl,rfl⟩);rw[f]at c;refine⟨⟨l,I,d,rfl,rfl,trivial,F,by omega,A,E,by rw[a,T.fj,Gf (by omega)]⟩,by rw[c.out,u.1];omega⟩
  ·go_wp2_with (go_at_call 187;refine cl.mono ?_;rintro e O⟨rfl,rfl⟩);go_ret;exact⟨rfl,_,rfl,by rw[a,T.fj,rW (by omega)];exact⟨b,_,_,_,rfl,R,S.out⟩⟩
  ·go_wp2_with (go_at_call 187;refine cl.mono ?_;rintro e O⟨rfl,rfl⟩);rw[f]at c;refine⟨⟨r,Q,d - (H+1),rfl,rfl,trivial,L,by omega,by omega,by omega,by rw[a,T.fj,yQ (by omega),o]⟩,by rw[c.out,u.2];omega⟩
theorem GD(B:Nat)(l r:T (K M) Int)(pl pr:Option Addr)(hs:l.size+r.size<=1000000)(W:World)(hB:B<=W.heap.size)(h1:Tr W B l pl)(h2:Tr W B r pr):Calls prog 208 #[.pointer pl,.pointer pr] W (mw W B (l.fj++r.fj)):=by
 have cl:=bB l pl B W h1;have cr:=bB r pr B W h2;by_cases A:r.size<l.size
 ·have m:(r.size:Int)<(l.size:Int):=(by omega);have j:l≠.nil:=(by intro e;rw[e]at A;simp[T.size]at A);rcases List.eq_nil_or_concat l.fj with e|⟨S,f,e⟩
  ·exact absurd (T.rx e) j
  rw[List.concat_eq_append]at e;have x:l.size=S.length+1:=(by rw[<-T.len,e];simp);have g:=CI B l pl (S.length:Int) (by omega) (by omega) (by omega) W h1;rw[e,rW rfl]at g;have E:=Dj B l pl W j (by omega) hB h1;rw[x]at cl m;go_enter func208,ntmps208
  go_wp2_with (first|(go_at_call 187;(with_reducible refine cl.mono ?_);rintro e o⟨rfl,rfl⟩)|(go_at_call 187;(with_reducible refine cr.mono ?_);rintro e o⟨rfl,rfl⟩)|(go_at_call 219;refine g.mono ?_;rintro e o⟨rfl,q,rfl,b,n,F,G,rfl,U,H⟩)|(go_at_call 220;refine E.mono ?_;rintro e I⟨J,N,rfl,p,h,d⟩;have i:=bK b f.1 f.2 n F G J r N pr B (by have:=bS h;rw[List.length_dropLast,T.len]at this;omega) I (zw hB d.size) (H.later d) p (h2.later d))|(go_at_call 207;refine i.mono ?_;clear i;rintro e V⟨O,P,rfl,s,t,u⟩))
  go_ret;refine⟨O,P,rfl,s,?_,aB d u⟩;rw[t,h,e]
  simp
 have m:¬ (r.size:Int)<(l.size:Int):=(by omega);cases r with
 | nil =>
  obtain rfl:pr=none:=h2
  have j:l=.nil:=by
   cases l with
   | nil=>rfl
   | nd k v a c=>exact absurd (by simp[T.size];omega) A
  subst j;go_enter func208,ntmps208
  go_wp2_with (first|(go_at_call 187;(with_reducible refine cl.mono ?_);rintro e o⟨rfl,rfl⟩)|(go_at_call 187;(with_reducible refine cr.mono ?_);rintro e o⟨rfl,rfl⟩))
  go_ret;exact⟨.nil,none,rfl,rfl,rfl,.refl _ _⟩
 | nd k v a c =>
  have y:=DO B (.nd k v a c) pr W (by simp) (by omega) hB h2;have g:=CI B (.nd k v a c) pr 0 (by omega) (by omega) (by omega) W h2
  obtain⟨f,w,z⟩:∃f w,(T.nd k v a c).fj=f::w:=by
   cases X:(T.nd k v a c).fj with
   | nil=>simp[T.fj]at X
   | cons f w=>exact⟨f,w,rfl⟩
  have Q:look (f::w) 0=some f:=rW (L:=[]) rfl;rw[z,Q]at g;rw[z]at y;have R:(T.nd k v a c).size=w.length+1:=(by rw[<-T.len,z];simp);rw[z];rw[R]at cr m hs;have Y:=aa h2;obtain⟨b0,_,_,rfl,_⟩:=h2;go_enter func208,ntmps208
  go_wp2_with (first|(go_at_call 187;(with_reducible refine cl.mono ?_);rintro e o⟨rfl,rfl⟩)|(go_at_call 187;(with_reducible refine cr.mono ?_);rintro e o⟨rfl,rfl⟩)|(go_at_call 219;refine g.mono ?_;rintro e o⟨rfl,q,rfl,b,n,F,G,rfl,U,H⟩)|(go_at_call 221;refine y.mono ?_;rintro e I⟨J,N,rfl,p,h,d⟩;have i:=bK b f.1 f.2 n F G l J pl N B (by have:=bS h;rw[List.tail_cons]at this;omega) I (zw hB d.size) (H.later d) (h1.later d) p)|(go_at_call 207;refine i.mono ?_;clear i;rintro e V⟨O,P,rfl,s,t,u⟩))
  go_ret;refine⟨O,P,rfl,s,?_,aB d u⟩;rw[t,h];rfl
variable {M:Nat}
def Cmp(D:Nat)(W0:World)(cv:Value)(key:K M->Int):Prop:=∃(g:Nat) (lb:Array Value),cv=.func (.func g) #[] lb/\(∀a w,(callFunc g a).run prog w=.ok (.enter g a) w)/\∀w (a b:K M),Below D W0 w->Calls prog g (#[.string (a).1,.string (b).1]++lb) w fun e w'=>e=.returned (.int .i64 (ic (key a) (key b)))/\∃q,w'=w.drewN q
theorem rX{D:Nat}{W0:World}{cv:Value}{key:K M->Int}(hc:Cmp D W0 cv key)(B:Nat)(hDB:D<=B)(k:K M)(v:Int):∀(t:T (K M) Int) (p:Option Addr) (W:World),Srt key t.fj->t.size+1<=1000000->B<=W.heap.size->Below D W0 W->Tr W B t p ->
   Calls prog 188 #[.pointer p,cv,.string (k).1,.int .i64 v] W (mw W B (fp key k v t.fj))
 | .nil,p,W,_,_,hB,_,h=>by
  obtain rfl:p=none:=h;go_enter func188,ntmps188;go_wp2_with fail;go_ret;exact⟨.nd k v .nil .nil,_,rfl,yP W B hB k v .nil .nil _ rfl none none rfl rfl,rfl,aD W _⟩
 | .nd a u l r,p,W,hso,hs,hB,hD,h=>by
  obtain⟨b,I,J,rfl,hb,hh,hl,hr⟩:=h;have X:=eH hh;obtain⟨sl,Y,N,a0⟩:=hso.split;have a1:l.size+1+r.size+1<=1000000:=hs;obtain⟨g,lb,rfl,Z,O⟩:=id hc;have x:=O W k a hD;have n:=aa (ab X (ab hl hr));obtain⟨c0,c1,c2,c3,c4⟩:=X;have HC:=aa (ab c0 (ab c1 (ab c2 (ab c3 c4))));have d:=(fun q=>aG W (q+1));by_cases h1:key k<key a
  ·have s:ic (key k) (key a)<0:=nR.2 h1;generalize ic (key k) (key a)=o at x s;go_enter func188,ntmps188;go_upto_region 5 with ((with_reducible refine x.mono ?_);rintro e L⟨rfl,q,rfl⟩);have P:=rX hc B hDB k v l I (W.drewN (q+1)) sl (by omega) hB (hD.trans ((d q).mono (zw hDB hB))) (n.2.1.drewN (q+1));have i:=n.1.later (aG W q);have y:=n.1.later (d q)
   go_region_held3 (fun w=>w.cell? ⟨b,3,none⟩=some (.pointer I)/\w.cell? ⟨b,4,none⟩=some (.pointer J)) (first|exact⟨i.c3,i.c4⟩ | exact⟨y.c3,y.c4⟩ | exact⟨f.c3,f.c4⟩ | exact⟨j.c3,j.c4⟩) (first|(go_at_call 188;(with_reducible refine P.mono ?_);clear P;rintro e L⟨Q,R,rfl,F,z,c⟩;have c:=aB (d q) c;have f:=n.1.later c;have A:=bK b a u _ _ _ Q r R J B (by have:=bS z;rw[eR sl,T.len]at this;split at this <;> omega) L (zw hB c.size) f F (n.2.2.later c))|(go_at_call 207;(with_reducible refine A.mono ?_);clear A;rintro e x2⟨S,U,rfl,G,H,m⟩;have m:=aB c m;have j:=n.1.later m))
   go_wp2_with fail;go_ret;exact⟨S,U,rfl,G,by rw[H,z,T.fj,CR h1],m⟩
  ·by_cases h2:key a<key k
   ·have s:0<ic (key k) (key a):=nS.2 h2;generalize ic (key k) (key a)=o at x s;go_enter func188,ntmps188;go_upto_region 7 with ((with_reducible refine x.mono ?_);rintro e L⟨rfl,q,rfl⟩);have P:=rX hc B hDB k v r J (W.drewN (q+1)) Y (by omega) hB (hD.trans ((d q).mono (zw hDB hB))) (n.2.2.drewN (q+1));have i:=n.1.later (aG W q);have y:=n.1.later (d q)
    go_region_held3 (fun w=>w.cell? ⟨b,3,none⟩=some (.pointer I)/\w.cell? ⟨b,4,none⟩=some (.pointer J)) (first|exact⟨i.c3,i.c4⟩ | exact⟨y.c3,y.c4⟩ | exact⟨f.c3,f.c4⟩ | exact⟨j.c3,j.c4⟩) (first|(go_at_call 188;(with_reducible refine P.mono ?_);clear P;rintro e L⟨Q,R,rfl,F,z,c⟩;have c:=aB (d q) c;have f:=n.1.later c;have A:=bK b a u _ _ _ l Q I R B (by have:=bS z;rw[eR Y,T.len]at this;split at this <;> omega) L (zw hB c.size) f (n.2.1.later c) F)|(go_at_call 207;(with_reducible refine A.mono ?_);clear A;rintro e x2⟨S,U,rfl,G,H,m⟩;have m:=aB c m;have j:=n.1.later m))
    go_wp2_with fail;go_ret;exact⟨S,U,rfl,G,by rw[H,z,T.fj,rK (fun p V=>by have:=N p V;show key p.1<key k;omega),fp,zq (by omega),zv h2],m⟩
   ·have he:key a=key k:=(by omega);have s:ic (key k) (key a)=0:=gM.2 he.symm;rw[s]at x;go_enter func188,ntmps188;go_upto_region 8 with ((with_reducible refine x.mono ?_);rintro e L⟨rfl,q,rfl⟩);have i:=n.1.later (aG W q);have f:=(fun o=>(n.1.later (d q)).later (aD (W.drewN (q+1)) o));have j:=(fun o=>n.1.later (aD W o));have E:=fun o=>(n.1.later (aG W q)).later (aD (W.drewN q) o)
    go_region_held3 (fun w=>w.cell? ⟨b,0,none⟩=some (.string (a).1)/\w.cell? ⟨b,2,none⟩=some (.int .i64 ((l.size+1+r.size:Nat):Int))/\w.cell? ⟨b,3,none⟩=some (.pointer I)/\w.cell? ⟨b,4,none⟩=some (.pointer J)) (first|exact⟨i.c0,i.c2,i.c3,i.c4⟩ | exact⟨(f _).c0,(f _).c2,(f _).c3,(f _).c4⟩ | exact⟨(j _).c0,(j _).c2,(j _).c3,(j _).c4⟩ | exact⟨(E _).c0,(E _).c2,(E _).c3,(E _).c4⟩) (fail)
    go_wp2_with fail;go_ret
    exact⟨.nd a v l r,some ⟨W.heap.size,0,none⟩,rfl,yP (W.drewN (q+1)) B hB a v l r _ (by omega) I J (n.2.1.drewN (q+1)) (n.2.2.drewN (q+1)),by
     show l.fj++(a,v)::r.fj=fp key k v (l.fj++(a,u)::r.fj);rw[rK (fun p V=>by have:=N p V;show key p.1<key k;omega),JO he],aB (d q) (aD (W.drewN (q+1)) _)⟩
variable {M:Nat}
theorem fT{D:Nat}{W0:World}{cv:Value}{key:K M->Int}(B:Nat)(hDB:D<=B)(k:K M):∀(t:T (K M) Int) (p:Option Addr) (W:World),(t=.nil∨Cmp D W0 cv key)->Srt key t.fj->t.size<=1000000->B<=W.heap.size->Below D W0 W->Tr W B t p ->
   Calls prog 190 #[.pointer p,cv,.string (k).1] W (mw W B (ib key k t.fj))
 | .nil,p,W,_,_,_,_,_,h=>by
  obtain rfl:p=none:=h;go_enter func190,ntmps190;go_wp2_with fail;go_ret;exact⟨.nil,none,rfl,rfl,rfl,.refl _ _⟩
 | .nd a u l r,p,W,hcc,hso,hs,hB,hD,h=>by
  obtain⟨b,H,I,rfl,hb,hh,hl,hr⟩:=h;have hn:=eH hh;obtain⟨sl,sr,J,S⟩:=hso.split;have a1:l.size+1+r.size<=1000000:=hs;have U:=hcc.resolve_left (fun e=>by cases e);obtain⟨g,lb,rfl,a0,N⟩:=id U;have x:=N W k a hD;have j:=aa (ab hn (ab hl hr));obtain⟨c0,c1,c2,c3,c4⟩:=hn;have HC:=aa (ab c0 (ab c1 (ab c2 (ab c3 c4))));have d:=(fun q=>aG W (q+1));by_cases h1:key k<key a
  ·have m:ic (key k) (key a)<0:=nR.2 h1;generalize ic (key k) (key a)=o at x m;go_enter func190,ntmps190;go_upto_region 5 with ((with_reducible refine x.mono ?_);rintro e E⟨rfl,q,rfl⟩);have O:=fT B hDB k l H (W.drewN (q+1)) (.inr U) sl (by omega) hB (hD.trans ((d q).mono (zw hDB hB))) (j.2.1.drewN (q+1));have n:=j.1.later (aG W q);have s:=j.1.later (d q)
   go_region_held3 (fun w=>w.cell? ⟨b,3,none⟩=some (.pointer H)/\w.cell? ⟨b,4,none⟩=some (.pointer I)) (first|exact⟨n.c3,n.c4⟩ | exact⟨s.c3,s.c4⟩ | exact⟨f.c3,f.c4⟩ | exact⟨y.c3,y.c4⟩) (first|(go_at_call 190;(with_reducible refine O.mono ?_);clear O;rintro e E⟨P,Q,rfl,z,v,c⟩;have c:=aB (d q) c;have f:=j.1.later c;have A:=bK b a u _ _ _ P r Q I B (by have:=bS v;have V:=eS (key:=key) (k:=k) (L:=l.fj);rw[T.len]at V;omega) E (zw hB c.size) f z (j.2.2.later c))|(go_at_call 207;(with_reducible refine A.mono ?_);clear A;rintro e x2⟨X,Y,rfl,F,G,i⟩;have i:=aB c i;have y:=j.1.later i))
   go_wp2_with fail;go_ret;exact⟨X,Y,rfl,F,by rw[G,v,T.fj,DL h1 S],i⟩
  ·by_cases h2:key a<key k
   ·have m:0<ic (key k) (key a):=nS.2 h2;generalize ic (key k) (key a)=o at x m;go_enter func190,ntmps190;go_upto_region 7 with ((with_reducible refine x.mono ?_);rintro e E⟨rfl,q,rfl⟩);have O:=fT B hDB k r I (W.drewN (q+1)) (.inr U) sr (by omega) hB (hD.trans ((d q).mono (zw hDB hB))) (j.2.2.drewN (q+1));have n:=j.1.later (aG W q);have s:=j.1.later (d q)
    go_region_held3 (fun w=>w.cell? ⟨b,3,none⟩=some (.pointer H)/\w.cell? ⟨b,4,none⟩=some (.pointer I)) (first|exact⟨n.c3,n.c4⟩ | exact⟨s.c3,s.c4⟩ | exact⟨f.c3,f.c4⟩ | exact⟨y.c3,y.c4⟩) (first|(go_at_call 190;(with_reducible refine O.mono ?_);clear O;rintro e E⟨P,Q,rfl,z,v,c⟩;have c:=aB (d q) c;have f:=j.1.later c;have A:=bK b a u _ _ _ l P H Q B (by have:=bS v;have V:=eS (key:=key) (k:=k) (L:=r.fj);rw[T.len]at V;omega) E (zw hB c.size) f (j.2.1.later c) z)|(go_at_call 207;(with_reducible refine A.mono ?_);clear A;rintro e x2⟨X,Y,rfl,F,G,i⟩;have i:=aB c i;have y:=j.1.later i))
    go_wp2_with fail;go_ret;exact⟨X,Y,rfl,F,by rw[G,v,T.fj,rL (fun p Z=>by have:=J p Z;show key p.1<key k;omega),ib,zq (by omega)],i⟩
   ·have he:key a=key k:=(by omega);have m:ic (key k) (key a)=0:=gM.2 he.symm;rw[m]at x;go_enter func190,ntmps190;go_upto_region 8 with ((with_reducible refine x.mono ?_);rintro e E⟨rfl,q,rfl⟩);have R:=GD B l r H I (by omega) (W.drewN (q+1)) hB (j.2.1.drewN (q+1)) (j.2.2.drewN (q+1));have n:=j.1.later (aG W q);have s:=j.1.later (d q)
    go_region_held3 (fun w=>w.cell? ⟨b,3,none⟩=some (.pointer H)/\w.cell? ⟨b,4,none⟩=some (.pointer I)) (first|exact⟨n.c3,n.c4⟩ | exact⟨s.c3,s.c4⟩ | exact⟨f.c3,f.c4⟩) (first|(go_at_call 208;(with_reducible refine R.mono ?_);clear R;rintro e E⟨P,Q,rfl,z,v,c⟩;have c:=aB (d q) c;have f:=j.1.later c))
    go_wp2_with fail;go_ret;exact⟨P,Q,rfl,z,by rw[v,T.fj,rL (fun p Z=>by have:=J p Z;show key p.1<key k;omega),Iq he],c⟩
def Has(M:Nat)(W:World)(B:Nat):Option Int->Option Addr->Prop
 | none,q=>q=none
 | some u,q=>∃(b:Nat) (a:K M) (n:Int) (lp rp:Option Addr),q=some ⟨b,0,none⟩/\B<=b/\Nd W b a u n lp rp
theorem KW{D:Nat}{W0:World}{cv:Value}{key:K M->Int}(B:Nat)(hDB:D<=B)(k:K M)(t:T (K M) Int)(p:Option Addr)(W:World)(hcc:t=.nil∨Cmp D W0 cv key)(hso:Srt key t.fj)(hs:t.size<=1000000)(hB:B<=W.heap.size)(hD:Below D W0 W)(h:Tr W B t p):Calls prog 206 #[.pointer p,cv,.string (k).1] W fun e w'=>(∃q,w'=W.drewN q)/\∃q,e=.returned (.tuple #[.pointer q,.int .i64 (below key k t.fj:Int)])/\Has M W B (dq key k t.fj) q:=by
 go_enter func206,ntmps206;go_wp2_with fail
 go_loopw [0,8] (fun pv iv w=>∃(n:T (K M) Int) (J:Option Addr) (v:Nat),pv=.pointer J/\iv=.int .i64 (v:Int)/\(∃q,w=W.drewN q)/\Tr W B n J/\Srt key n.fj/\v+n.size<=1000000/\below key k t.fj=v+below key k n.fj/\dq key k t.fj=dq key k n.fj/\(t=.nil->n=.nil)) (fun pv _ w=>AH w pv)
 case atStart=>exact⟨t,p,0,rfl,rfl,⟨0,rfl⟩,h,hso,by omega,by omega,rfl,id⟩
 obtain⟨n,J,v,rfl,rfl,⟨L,rfl⟩,N,A,O,i,j,hz⟩:=hrel;have E:=gQ (N.drewN L);cases n with
 | nil =>
  obtain rfl:J=none:=N;go_wp2_with fail;go_ret2;refine⟨⟨L,rfl⟩,none,by first | (rw[i];simp[T.fj,below]) | simp[T.fj,below],?_⟩
  first | (rw[j];rfl) | rfl
 | nd a u l r =>
  obtain⟨b,P,V,rfl,hb,X,Q,Y⟩:=N;have F:=eH X;obtain⟨sl,sr,m,R⟩:=A.split;have HN:=aa F;have cl:=(fun q=>bB l P B (W.drewN q) (Q.drewN q));have S:v+(l.size+1+r.size)<=1000000:=O;have G:=(fun q=>gQ (Q.drewN q));have H:=(fun q=>gQ (Y.drewN q));have x:=T.len l;have y:t≠.nil:=(fun e=>by have:=hz e;cases this);have hc:=hcc.resolve_left y;obtain⟨g,lb,rfl,Z,I⟩:=id hc;have d:=I (W.drewN L) k a (hD.trans ((aG W L).mono (zw hDB hB)));have f:=aa (ab E (ab G H));have s:(T.nd a u l r).size=l.size+1+r.size:=rfl;obtain⟨zl,U⟩:=ag l.size;rw[U]at cl x S;have c0:=(fun q=>(F.later (aG W q)).c0);have c3:=(fun q=>(F.later (aG W q)).c3);have c4:=(fun q=>(F.later (aG W q)).c4);clear F E G H X;by_cases h1:key k<key a
  ·have c:ic (key k) (key a)<0:=nR.2 h1;generalize ic (key k) (key a)=o at d c
   go_wp2_with (first|(go_at_call 187;refine(cl _).mono ?_;rintro e x2⟨rfl,rfl⟩)|((with_reducible refine d.mono ?_);rintro e x1⟨rfl,q,rfl⟩))
   rw[s]at f;exact⟨⟨l,P,v,rfl,rfl,⟨_,rfl⟩,Q,sl,by omega,by rw[i,T.fj,uG (by omega)],by rw[j,T.fj,CP h1 R],fun e=>absurd e y⟩,by rw[f.1,f.2.1];omega⟩
  ·by_cases h2:key a<key k
   ·have c:0<ic (key k) (key a):=nS.2 h2;generalize ic (key k) (key a)=o at d c
    go_wp2_with (first|(go_at_call 187;refine(cl _).mono ?_;rintro e x2⟨rfl,rfl⟩)|((with_reducible refine d.mono ?_);rintro e x1⟨rfl,q,rfl⟩))
    rw[s]at f;exact⟨⟨r,V,v+zl+1,rfl,rfl,⟨_,rfl⟩,Y,sr,by omega,by rw[i,T.fj,nT (fun p z=>by have:=m p z;show key p.1<key k;omega),below,zv h2,x];omega,by rw[j,T.fj,rM (fun p z=>by have:=m p z;show key p.1<key k;omega),dq,zq (by omega)],fun e=>absurd e y⟩,by rw[f.1,f.2.2];omega⟩
   ·have he:key a=key k:=(by omega);have c:ic (key k) (key a)=0:=gM.2 he.symm;rw[c]at d
    go_wp2_with (first|(go_at_call 187;refine(cl _).mono ?_;rintro e x2⟨rfl,rfl⟩)|((with_reducible refine d.mono ?_);rintro e x1⟨rfl,q,rfl⟩))
    go_ret2;refine⟨⟨_,rfl⟩,some ⟨b,0,none⟩,?_,?_⟩
    ·rw[i,T.fj,nT (fun p z=>by have:=m p z;show key p.1<key k;omega),below,zq (by omega),x];rfl
    ·rw[j,T.fj,rM (fun p z=>by have:=m p z;show key p.1<key k;omega),Fp he];exact⟨b,a,_,P,V,rfl,hb,HN.out⟩
