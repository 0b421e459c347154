import Derived.Test.YtkchgbjoeggdbaaGreatZn5
import Derived.WalkKit
import Derived.ProofKit
import Derived.BigQuiet
import Derived.StillTailTactics
import Derived.Deep.Cut
import Derived.Deep.RegionHeld3
set_option maxHeartbeats 2000000
set_option maxRecDepth 100000
namespace Go.Proofs.YtkchgbjoeggdbaaGreat.Co.S
open Go.Proofs.Tryz
open Go Go.RowKit Go.Proofs Go.Proofs.YtkchgbjoeggdbaaGreat Go.Proofs.YtkchgbjoeggdbaaGreat.Co
variable{M:Nat}
def Tr(W:World)(B:Nat):T (K M) Int->Option Addr->Prop
 | .nil,p=>p=none
 | .nd k v l r,p=>∃(b:Nat) (lp rp:Option Addr),p=some ⟨b,0,none⟩/\B<=b/\W.heap[b]?=some (.cells #[.string (k).1,.int .i64 v,.int .i64 ((l.size+1+r.size:Nat):Int),.pointer lp,.pointer rp] 227)/\Tr W B l lp/\Tr W B r rp
theorem aB{W:World}{b:Nat}{o:Obj}(h:W.heap[b]?=some o):b<W.heap.size:=(Array.getElem?_eq_some_iff.1 h).1
theorem Tr.of{W W':World}{B:Nat}(hb:∀b,B<=b->b<W.heap.size->W'.heap[b]?=W.heap[b]?):∀{t:T (K M) Int} {p:Option Addr},Tr W B t p->Tr W' B t p
 | .nil,_,h=>h
 | .nd _ _ _ _,_,⟨b,lp,rp,h1,h2,h3,h4,h5⟩=>⟨b,lp,rp,h1,h2,(hb b h2 (aB h3)).trans h3,Tr.of hb h4,Tr.of hb h5⟩
theorem Tr.later{W W':World}{B:Nat}{t:T (K M) Int}{p:Option Addr}(h:Tr W B t p)(hb:Below W.heap.size W W'):Tr W' B t p:=Tr.of (fun b _ h=>hb.block b h) h
theorem Tr.drewN{W:World}{B:Nat}{t:T (K M) Int}{p:Option Addr}(h:Tr W B t p)(q:Nat):Tr (W.drewN q) B t p:=Tr.of (W:=W) (W':=W.drewN q) (fun _ _ _=>rfl) h
theorem Tr.drew{W:World}{B:Nat}{t:T (K M) Int}{p:Option Addr}(h:Tr W B t p):Tr W.drew B t p:=Tr.of (W:=W) (W':=W.drew) (fun _ _ _=>rfl) h
theorem aA{W:World}{b:Nat}{cs:Array Value}{t:TypeId}(h:W.heap[b]?=some (.cells cs t))(i:Nat):W.cell? ⟨b,i,none⟩=cs[i]?:=by simp[World.cell?,h]
structure Nd (W:World) (b:Nat) (k:K M) (v:Int) (n:Int) (lp rp:Option Addr):Prop where
 c0:W.cell? ⟨b,0,none⟩=some (.string (k).1)
 c1:W.cell? ⟨b,1,none⟩=some (.int .i64 v)
 c2:W.cell? ⟨b,2,none⟩=some (.int .i64 n)
 c3:W.cell? ⟨b,3,none⟩=some (.pointer lp)
 c4:W.cell? ⟨b,4,none⟩=some (.pointer rp)
theorem bO{W:World}{b:Nat}{k:K M}{v:Int}{n:Int}{lp rp:Option Addr}{t:TypeId}(h:W.heap[b]?=some (.cells #[.string (k).1,.int .i64 v,.int .i64 n,.pointer lp,.pointer rp] t)):Nd W b k v n lp rp:=
 ⟨aA h 0,aA h 1,aA h 2,aA h 3,aA h 4⟩
theorem Nd.lt{W:World}{b:Nat}{k:K M}{v:Int}{n:Int}{lp rp:Option Addr}(h:Nd W b k v n lp rp):b<W.heap.size:=xh W ⟨b,0,none⟩ h.c0
theorem Nd.of{W W':World}{b:Nat}{k:K M}{v:Int}{n:Int}{lp rp:Option Addr}(h:Nd W b k v n lp rp)(hb:W'.heap[b]?=W.heap[b]?):Nd W' b k v n lp rp:=
 ⟨(ze (w:=W) hb).trans h.c0,(ze (w:=W) hb).trans h.c1,(ze (w:=W) hb).trans h.c2,(ze (w:=W) hb).trans h.c3,(ze (w:=W) hb).trans h.c4⟩
theorem Nd.later{W W':World}{b:Nat}{k:K M}{v:Int}{n:Int}{lp rp:Option Addr}(h:Nd W b k v n lp rp)(hb:Below W.heap.size W W'):Nd W' b k v n lp rp:=h.of (hb.block b h.lt)
theorem aC{W A B:World}(h:Below W.heap.size W A)(k:Below A.heap.size A B):Below W.heap.size W B:=h.trans (k.mono h.size)
theorem aD(W:World)(o:Obj):Below W.heap.size W (W.alloc o):=(zg _ W).alloc (zo _) o
theorem aF(W:World)(q:Nat):Below W.heap.size W (W.drewN q):=⟨rfl,rfl,rfl,zo _,fun _ _=>rfl⟩
theorem ax(t:T (K M) Int)(p:Option Addr)(B:Nat)(W:World)(h:Tr W B t p):Calls prog 186 #[.pointer p] W fun e a=>e=.returned (.int .i64 (t.size:Int))/\a=W:=by
 cases t with
 | nil =>
  obtain rfl:p=none:=h;go_enter func186,ntmps186
  go_wp2
  go_ret;exact⟨rfl,rfl⟩
 | nd k v l r =>
  obtain⟨b,lv,rv,rfl,_,c,_,_⟩:=h;have d:=(bO c).c2;show Calls prog 186 _ W fun e a=>e=.returned (.int .i64 ((l.size+1+r.size:Nat):Int))/\a=W
  generalize l.size+1+r.size=n at d;go_enter func186,ntmps186
  go_wp2
  go_ret;exact⟨rfl,rfl⟩
theorem aX(t:T (K M) Int)(p:Option Addr)(B:Nat)(hs:t.size<=1000000)(W:World)(h:Tr W B t p):Calls prog 212 #[.pointer p] W fun e b=>e=.returned (.int .i64 ((t.size+1:Nat):Int))/\b=W:=by
 have a:=ax t p B W h;generalize t.size=n at hs a;go_enter func212,ntmps212;go_wp2_with (go_at_call 186;refine a.mono ?_;rintro e c⟨rfl,rfl⟩);go_ret;exact⟨by simp,rfl⟩
def Makes(W:World)(B:Nat)(t:T (K M) Int)(e:Ending)(W':World):Prop:=∃p,e=.returned (.pointer p)/\Tr W' B t p/\Below W.heap.size W W'
theorem gW(W:World)(B:Nat)(hB:B<=W.heap.size)(k:K M)(v:Int)(l r:T (K M) Int)(n:Int)(hn:n=((l.size+1+r.size:Nat):Int))(lp rp:Option Addr)(h1:Tr W B l lp)(h2:Tr W B r rp):Tr (W.alloc (.cells #[.string (k).1,.int .i64 v,.int .i64 n,.pointer lp,.pointer rp] 227)) B (.nd k v l r) (some ⟨W.heap.size,0,none⟩):=
 ⟨W.heap.size,lp,rp,rfl,hB,by rw[hn];exact z7 W _,h1.later (aD W _),h2.later (aD W _)⟩
theorem aN(b:Nat)(k:K M)(v:Int)(n:Int)(xl xr:Option Addr)(l r:T (K M) Int)(pl pr:Option Addr)(B:Nat)(hl:l.size<=1000000)(hr:r.size<=1000000)(W:World)(hB:B<=W.heap.size)(hb:Nd W b k v n xl xr)(h1:Tr W B l pl)(h2:Tr W B r pr):Calls prog 215 #[.pointer (some ⟨b,0,none⟩),.pointer pl,.pointer pr] W (Makes W B (.nd k v l r)):=by
 have c1:=ax l pl B W.drew h1.drew;have c2:=ax r pr B W.drew h2.drew;have d:=aa (ab hB (ab h1 h2));have i:∀o,(W.alloc o).cell? ⟨b,0,none⟩=some (.string (k).1)/\(W.alloc o).cell? ⟨b,1,none⟩=some (.int .i64 v):=(fun o=>⟨(hb.later (aD W o)).c0,(hb.later (aD W o)).c1⟩);obtain⟨f,g,_,_,_⟩:=hb;obtain⟨nl,a⟩:=ae l.size;obtain⟨j,c⟩:=ae r.size;rw[a]at c1 hl;rw[c]at c2 hr;have h:=aa (ab a c);clear a c hB h1 h2;go_enter func215,ntmps215;go_wp2_with fail
 go_region_held3 (fun w=>w.cell? ⟨b,0,none⟩=some (.string (k).1)/\w.cell? ⟨b,1,none⟩=some (.int .i64 v)) (first|exact⟨f,g⟩ | exact i _) (first|(go_at_call 186;(with_reducible refine c1.mono ?_);rintro e m⟨rfl,rfl⟩)|(go_at_call 186;(with_reducible refine c2.mono ?_);rintro e m⟨rfl,rfl⟩))
 go_wp2_with fail;go_ret;exact⟨_,rfl,(gW W B d.1 k v l r _ (by rw[Go.IntWalk.i64_left,Go.IntWalk.i64_left,Go.IntWalk.wrap64_in ((nl:Int)+1) (by omega),Go.IntWalk.wrap64_in ((nl:Int)+1+j) (by omega),h.1,h.2];omega) pl pr d.2.1 d.2.2).drew,(aD W _).drew⟩
end Go.Proofs.YtkchgbjoeggdbaaGreat.Co.S
namespace Go.Proofs.YtkchgbjoeggdbaaGreat.Ix
open Go.Proofs.Tryz
open Go Go.RowKit Go.Proofs Go.Proofs.YtkchgbjoeggdbaaGreat Go.Proofs.YtkchgbjoeggdbaaGreat.Co Go.Proofs.YtkchgbjoeggdbaaGreat.Co.S
variable{M:Nat}
abbrev SV:Type:=Option Addr×Nat×Nat
def VX(M:Nat):Type:={x:Int×Int×ByteArray // (-9223372036854775808<=x.1/\x.1<=9223372036854775807)/\(-9223372036854775808<=x.2.1/\x.2.1<=9223372036854775807)/\x.2.2.size<=M}
def Tr(W:World)(B:Nat->Prop):T (VX M) SV->Option Addr->Prop
 | .nil,p=>p=none
 | .nd k v l r,p=>∃(b:Nat) (lp rp:Option Addr),p=some ⟨b,0,none⟩/\B b/\W.heap[b]?=some (.cells #[.int .i64 k.1.1,.int .i64 k.1.2.1,.string k.1.2.2,(Value.slice v.1 v.2.1 v.2.2),.int .i64 ((l.size+1+r.size:Nat):Int),.pointer lp,.pointer rp] 118)/\Tr W B l lp/\Tr W B r rp
theorem Tr.of{W W':World}{B:Nat->Prop}(hb:∀b,B b->b<W.heap.size->W'.heap[b]?=W.heap[b]?):∀{t:T (VX M) SV} {p:Option Addr},Tr W B t p->Tr W' B t p
 | .nil,_,h=>h
 | .nd _ _ _ _,_,⟨b,lp,rp,h1,h2,h3,h4,h5⟩=>⟨b,lp,rp,h1,h2,(hb b h2 (aB h3)).trans h3,Tr.of hb h4,Tr.of hb h5⟩
theorem Tr.later{W W':World}{B:Nat->Prop}{t:T (VX M) SV}{p:Option Addr}(h:Tr W B t p)(hb:Below W.heap.size W W'):Tr W' B t p:=Tr.of (fun b _ h=>hb.block b h) h
theorem Tr.drewN{W:World}{B:Nat->Prop}{t:T (VX M) SV}{p:Option Addr}(h:Tr W B t p)(q:Nat):Tr (W.drewN q) B t p:=Tr.of (W:=W) (W':=W.drewN q) (fun _ _ _=>rfl) h
theorem Tr.drew{W:World}{B:Nat->Prop}{t:T (VX M) SV}{p:Option Addr}(h:Tr W B t p):Tr W.drew B t p:=Tr.of (W:=W) (W':=W.drew) (fun _ _ _=>rfl) h
structure Nd (W:World) (b:Nat) (k:VX M) (v:SV) (n:Int) (lp rp:Option Addr):Prop where
 c0:W.cell? ⟨b,0,none⟩=some (.int .i64 k.1.1)
 d1:W.cell? ⟨b,1,none⟩=some (.int .i64 k.1.2.1)
 d2:W.cell? ⟨b,2,none⟩=some (.string k.1.2.2)
 c1:W.cell? ⟨b,3,none⟩=some (Value.slice v.1 v.2.1 v.2.2)
 c2:W.cell? ⟨b,4,none⟩=some (.int .i64 n)
 c3:W.cell? ⟨b,5,none⟩=some (.pointer lp)
 c4:W.cell? ⟨b,6,none⟩=some (.pointer rp)
theorem bO{W:World}{b:Nat}{k:VX M}{v:SV}{n:Int}{lp rp:Option Addr}{t:TypeId}(h:W.heap[b]?=some (.cells #[.int .i64 k.1.1,.int .i64 k.1.2.1,.string k.1.2.2,(Value.slice v.1 v.2.1 v.2.2),.int .i64 n,.pointer lp,.pointer rp] t)):Nd W b k v n lp rp:=
 ⟨aA h 0,aA h 1,aA h 2,aA h 3,aA h 4,aA h 5,aA h 6⟩
theorem Nd.lt{W:World}{b:Nat}{k:VX M}{v:SV}{n:Int}{lp rp:Option Addr}(h:Nd W b k v n lp rp):b<W.heap.size:=xh W ⟨b,0,none⟩ h.c0
theorem Nd.of{W W':World}{b:Nat}{k:VX M}{v:SV}{n:Int}{lp rp:Option Addr}(h:Nd W b k v n lp rp)(hb:W'.heap[b]?=W.heap[b]?):Nd W' b k v n lp rp:=
 ⟨(ze (w:=W) hb).trans h.c0,(ze (w:=W) hb).trans h.d1,(ze (w:=W) hb).trans h.d2,(ze (w:=W) hb).trans h.c1,(ze (w:=W) hb).trans h.c2,(ze (w:=W) hb).trans h.c3,(ze (w:=W) hb).trans h.c4⟩
theorem Nd.later{W W':World}{b:Nat}{k:VX M}{v:SV}{n:Int}{lp rp:Option Addr}(h:Nd W b k v n lp rp)(hb:Below W.heap.size W W'):Nd W' b k v n lp rp:=h.of (hb.block b h.lt)
theorem ax(t:T (VX M) SV)(p:Option Addr)(B:Nat->Prop)(W:World)(h:Tr W B t p):Calls prog 51 #[.pointer p] W fun e a=>e=.returned (.int .i64 (t.size:Int))/\a=W:=by
 cases t with
 | nil =>
  obtain rfl:p=none:=h;go_enter func51,ntmps51
  go_wp2
  go_ret;exact⟨rfl,rfl⟩
 | nd k v l r =>
  obtain⟨b,lv,rv,rfl,_,c,_,_⟩:=h;have d:=(bO c).c2;show Calls prog 51 _ W fun e a=>e=.returned (.int .i64 ((l.size+1+r.size:Nat):Int))/\a=W
  generalize l.size+1+r.size=n at d;go_enter func51,ntmps51
  go_wp2
  go_ret;exact⟨rfl,rfl⟩
theorem aX(t:T (VX M) SV)(p:Option Addr)(B:Nat->Prop)(hs:t.size<=1000000)(W:World)(h:Tr W B t p):Calls prog 116 #[.pointer p] W fun e b=>e=.returned (.int .i64 ((t.size+1:Nat):Int))/\b=W:=by
 have a:=ax t p B W h;generalize t.size=n at hs a;go_enter func116,ntmps116;go_wp2_with (go_at_call 51;refine a.mono ?_;rintro e c⟨rfl,rfl⟩);go_ret;exact⟨by simp,rfl⟩
def Makes(W:World)(B:Nat->Prop)(t:T (VX M) SV)(e:Ending)(W':World):Prop:=∃p,e=.returned (.pointer p)/\Tr W' B t p/\Below W.heap.size W W'
theorem gW(W:World)(B:Nat->Prop)(hB:∀b,W.heap.size<=b->B b)(k:VX M)(v:SV)(l r:T (VX M) SV)(n:Int)(hn:n=((l.size+1+r.size:Nat):Int))(lp rp:Option Addr)(h1:Tr W B l lp)(h2:Tr W B r rp):Tr (W.alloc (.cells #[.int .i64 k.1.1,.int .i64 k.1.2.1,.string k.1.2.2,(Value.slice v.1 v.2.1 v.2.2),.int .i64 n,.pointer lp,.pointer rp] 118)) B (.nd k v l r) (some ⟨W.heap.size,0,none⟩):=
 ⟨W.heap.size,lp,rp,rfl,hB _ (zo _),by rw[hn];exact z7 W _,h1.later (aD W _),h2.later (aD W _)⟩
theorem aN(b:Nat)(k:VX M)(v:SV)(n:Int)(xl xr:Option Addr)(l r:T (VX M) SV)(pl pr:Option Addr)(B:Nat->Prop)(hl:l.size<=1000000)(hr:r.size<=1000000)(W:World)(hB:∀b,W.heap.size<=b->B b)(hb:Nd W b k v n xl xr)(h1:Tr W B l pl)(h2:Tr W B r pr):Calls prog 119 #[.pointer (some ⟨b,0,none⟩),.pointer pl,.pointer pr] W (Makes W B (.nd k v l r)):=by
 have c1:=ax l pl B W.drew h1.drew;have c2:=ax r pr B W.drew h2.drew;have d:=aa (ab hB (ab h1 h2));have m:∀o,(W.alloc o).cell? ⟨b,0,none⟩=some (.int .i64 k.1.1)/\(W.alloc o).cell? ⟨b,1,none⟩=some (.int .i64 k.1.2.1)/\(W.alloc o).cell? ⟨b,2,none⟩=some (.string k.1.2.2)/\(W.alloc o).cell? ⟨b,3,none⟩=some (Value.slice v.1 v.2.1 v.2.2):=(fun o=>⟨(hb.later (aD W o)).c0,(hb.later (aD W o)).d1,(hb.later (aD W o)).d2,(hb.later (aD W o)).c1⟩);obtain⟨f,g,h,i,_,_,_⟩:=hb;obtain⟨nl,a⟩:=ae l.size;obtain⟨p,c⟩:=ae r.size;rw[a]at c1 hl;rw[c]at c2 hr;have j:=aa (ab a c);clear a c hB h1 h2;go_enter func119,ntmps119;go_wp2_with fail
 go_region_held3 (fun w=>w.cell? ⟨b,0,none⟩=some (.int .i64 k.1.1)/\w.cell? ⟨b,1,none⟩=some (.int .i64 k.1.2.1)/\w.cell? ⟨b,2,none⟩=some (.string k.1.2.2)/\w.cell? ⟨b,3,none⟩=some (Value.slice v.1 v.2.1 v.2.2)) (first|exact⟨f,g,h,i⟩ | exact m _) (first|(go_at_call 51;(with_reducible refine c1.mono ?_);rintro e q⟨rfl,rfl⟩)|(go_at_call 51;(with_reducible refine c2.mono ?_);rintro e q⟨rfl,rfl⟩))
 go_wp2_with fail;go_ret;exact⟨_,rfl,(gW W B d.1 k v l r _ (by rw[Go.IntWalk.i64_left,Go.IntWalk.i64_left,Go.IntWalk.wrap64_in ((nl:Int)+1) (by omega),Go.IntWalk.wrap64_in ((nl:Int)+1+p) (by omega),j.1,j.2];omega) pl pr d.2.1 d.2.2).drew,(aD W _).drew⟩
variable{M:Nat}
def iy(W:World)(B:Nat->Prop)(L:List (VX M×SV))(e:Ending)(W':World):Prop:=∃t p,e=.returned (.pointer p)/\Tr W' B t p/\t.az=L/\Below W.heap.size W W'
theorem aZ{t:T (VX M) SV}{L:List (VX M×SV)}(h:t.az=L):t.size=L.length:=by rw[<-h,T.len]
theorem xC(b:Nat)(k:VX M)(v:SV)(n:Int)(xl xr:Option Addr)(l r:T (VX M) SV)(pl pr:Option Addr)(B:Nat->Prop)(hr0:r≠.nil)(hs:l.size+1+r.size<=1000000)(W:World)(hB:∀b,W.heap.size<=b->B b)(hb:Nd W b k v n xl xr)(h1:Tr W B l pl)(h2:Tr W B r pr):Calls prog 117 #[.pointer (some ⟨b,0,none⟩),.pointer pl,.pointer pr] W (iy W B (l.az++(k,v)::r.az)):=by
 cases r with
 | nil=>exact absurd rfl hr0
 | nd k2 v2 il ol =>
  obtain⟨b2,J,op,rfl,f,E,L,N⟩:=h2;have F:=bO E;have a0:l.size+1+(il.size+1+ol.size)<=1000000:=hs;have O:=(fun q=>aX il J B (by omega) (W.drewN q) (L.drewN q));have Y:=(fun q=>aX ol op B (by omega) (W.drewN q) (N.drewN q));have g:=aa (ab hb (ab h1 (ab F (ab L (ab N hB)))));clear hb h1 L N hB E;obtain⟨_,_,_,_,_,c3,c4⟩:=F;go_enter func117,ntmps117;go_wp2_with fail
  go_quiet (fail)
  clear c3 c4;by_cases hw:il.size+1<2*(ol.size+1)
  ·have G:((il.size:Int)+1)<2*((ol.size:Int)+1):=(by omega);have b1:=aN b k v n xl xr l il pl J B (by omega) (by omega) (W.drewN nq) g.2.2.2.2.2 (g.1.later (aF W nq)) (g.2.1.drewN nq) (g.2.2.2.1.drewN nq)
   go_wp2_with (first|(go_at_call 116;(with_reducible refine(O _).mono ?_);rintro e z⟨rfl,rfl⟩)|(go_at_call 116;(with_reducible refine(Y _).mono ?_);rintro e z⟨rfl,rfl⟩)|(go_at_call 119;(with_reducible refine b1.mono ?_);clear b1;rintro e z⟨P,rfl,i,d⟩;have d:=aC (aF W nq) d;have j:=aN b2 k2 v2 _ J op (.nd k v l il) ol P op B (by show l.size+1+il.size<=1000000;omega) (by omega) z (fun b h=>g.2.2.2.2.2 b (zx d.size h)) (g.2.2.1.later d) i (g.2.2.2.2.1.later d))|(go_at_call 119;(with_reducible refine j.mono ?_);clear j;rintro e Z⟨Q,rfl,A,f⟩))
   go_ret;exact⟨_,Q,rfl,A,by simp[T.az],aC d f⟩
  ·have G:¬ ((il.size:Int)+1)<2*((ol.size:Int)+1):=(by omega);cases il with
   | nil=>exact absurd hw (by simp[T.size];omega)
   | nd k3 v3 a c =>
    obtain⟨R,S,U,rfl,m,H,V,hc⟩:=g.2.2.2.1;have p:=bO H;have a1:l.size+1+(a.size+1+c.size+1+ol.size)<=1000000:=hs;have b1:=aN b k v n xl xr l a pl S B (by omega) (by omega) (W.drewN (nq+1)) g.2.2.2.2.2 (g.1.later (aF W (nq+1))) (g.2.1.drewN (nq+1)) (V.drewN (nq+1));have s:=aa (ab V (ab hc p));have t:=p.later (aF W nq);have u:=p.later (aF W (nq+1));clear V hc H p;generalize (T.nd k3 v3 a c).size=zi at O G
    go_upto_region 4 with (first|(go_at_call 116;(with_reducible refine(O _).mono ?_);rintro e z⟨rfl,rfl⟩)|(go_at_call 116;(with_reducible refine(Y _).mono ?_);rintro e z⟨rfl,rfl⟩))
    go_region_held3 (fun w=>w.cell? ⟨R,5,none⟩=some (.pointer S)/\w.cell? ⟨R,6,none⟩=some (.pointer U)) (first|exact⟨t.c3,t.c4⟩ | exact⟨x.c3,x.c4⟩ | exact⟨o.c3,o.c4⟩ | exact⟨y.c3,y.c4⟩ | exact⟨u.c3,u.c4⟩) (first|(go_at_call 119;(with_reducible refine b1.mono ?_);clear b1;rintro e z⟨P,rfl,i,d⟩;have d:=aC (aF W (nq+1)) d;have x:=s.2.2.later d;have j:=aN b2 k2 v2 _ _ op c ol U op B (by omega) (by omega) z (fun b h=>g.2.2.2.2.2 b (zx d.size h)) (g.2.2.1.later d) (s.2.1.later d) (g.2.2.2.2.1.later d))|(go_at_call 119;(with_reducible refine j.mono ?_);clear j;rintro e Z⟨Q,rfl,A,f⟩;have i:=i.later f;have f:=aC d f;have o:=s.2.2.later f;have I:=aN R k3 v3 _ S U (.nd k v l a) (.nd k2 v2 c ol) P Q B (by show l.size+1+a.size<=1000000;omega) (by show c.size+1+ol.size<=1000000;omega) Z (fun b h=>g.2.2.2.2.2 b (zx f.size h)) o i A)|(go_at_call 119;(with_reducible refine I.mono ?_);clear I;rintro e x3⟨p3,rfl,X,m⟩;have m:=aC f m;have y:=s.2.2.later m))
    go_wp2_with fail;go_ret;exact⟨_,p3,rfl,X,by simp[T.az],m⟩
variable{M:Nat}
theorem xD(b:Nat)(k:VX M)(v:SV)(n:Int)(xl xr:Option Addr)(l r:T (VX M) SV)(pl pr:Option Addr)(B:Nat->Prop)(hl0:l≠.nil)(hs:l.size+1+r.size<=1000000)(W:World)(hB:∀b,W.heap.size<=b->B b)(hb:Nd W b k v n xl xr)(h1:Tr W B l pl)(h2:Tr W B r pr):Calls prog 118 #[.pointer (some ⟨b,0,none⟩),.pointer pl,.pointer pr] W (iy W B (l.az++(k,v)::r.az)):=by
 cases l with
 | nil=>exact absurd rfl hl0
 | nd k2 v2 ol il =>
  obtain⟨b2,op,J,rfl,f,E,L,N⟩:=h1;have F:=bO E;have a0:(ol.size+1+il.size)+1+r.size<=1000000:=hs;have O:=(fun q=>aX il J B (by omega) (W.drewN q) (N.drewN q));have Y:=(fun q=>aX ol op B (by omega) (W.drewN q) (L.drewN q));have g:=aa (ab hb (ab h2 (ab F (ab N (ab L hB)))));clear hb h2 N L hB E;obtain⟨_,_,_,_,_,c3,c4⟩:=F;go_enter func118,ntmps118;go_wp2_with fail
  go_quiet (fail)
  clear c3 c4;by_cases hw:il.size+1<2*(ol.size+1)
  ·have G:((il.size:Int)+1)<2*((ol.size:Int)+1):=(by omega);have b1:=aN b k v n xl xr il r J pr B (by omega) (by omega) (W.drewN nq) g.2.2.2.2.2 (g.1.later (aF W nq)) (g.2.2.2.1.drewN nq) (g.2.1.drewN nq)
   go_wp2_with (first|(go_at_call 116;(with_reducible refine(O _).mono ?_);rintro e z⟨rfl,rfl⟩)|(go_at_call 116;(with_reducible refine(Y _).mono ?_);rintro e z⟨rfl,rfl⟩)|(go_at_call 119;(with_reducible refine b1.mono ?_);clear b1;rintro e z⟨P,rfl,i,d⟩;have d:=aC (aF W nq) d;have j:=aN b2 k2 v2 _ op J ol (.nd k v il r) op P B (by omega) (by show il.size+1+r.size<=1000000;omega) z (fun b h=>g.2.2.2.2.2 b (zx d.size h)) (g.2.2.1.later d) (g.2.2.2.2.1.later d) i)|(go_at_call 119;(with_reducible refine j.mono ?_);clear j;rintro e Z⟨Q,rfl,A,f⟩))
   go_ret;exact⟨_,Q,rfl,A,by simp[T.az],aC d f⟩
  ·have G:¬ ((il.size:Int)+1)<2*((ol.size:Int)+1):=(by omega);cases il with
   | nil=>exact absurd hw (by simp[T.size];omega)
   | nd k3 v3 a c =>
    obtain⟨R,S,U,rfl,m,H,V,hc⟩:=g.2.2.2.1;have p:=bO H;have a1:(ol.size+1+(a.size+1+c.size))+1+r.size<=1000000:=hs;have b1:=aN b2 k2 v2 _ _ _ ol a op S B (by omega) (by omega) (W.drewN (nq+1)) g.2.2.2.2.2 (g.2.2.1.later (aF W (nq+1))) (g.2.2.2.2.1.drewN (nq+1)) (V.drewN (nq+1));have s:=aa (ab V (ab hc p));have t:=p.later (aF W nq);have u:=p.later (aF W (nq+1));clear V hc H p;generalize (T.nd k3 v3 a c).size=zi at O G
    go_upto_region 4 with (first|(go_at_call 116;(with_reducible refine(O _).mono ?_);rintro e z⟨rfl,rfl⟩)|(go_at_call 116;(with_reducible refine(Y _).mono ?_);rintro e z⟨rfl,rfl⟩))
    go_region_held3 (fun w=>w.cell? ⟨R,5,none⟩=some (.pointer S)/\w.cell? ⟨R,6,none⟩=some (.pointer U)) (first|exact⟨t.c3,t.c4⟩ | exact⟨x.c3,x.c4⟩ | exact⟨o.c3,o.c4⟩ | exact⟨y.c3,y.c4⟩ | exact⟨u.c3,u.c4⟩) (first|(go_at_call 119;(with_reducible refine b1.mono ?_);clear b1;rintro e z⟨P,rfl,i,d⟩;have d:=aC (aF W (nq+1)) d;have x:=s.2.2.later d;have j:=aN b k v _ _ _ c r U pr B (by omega) (by omega) z (fun b h=>g.2.2.2.2.2 b (zx d.size h)) (g.1.later d) (s.2.1.later d) (g.2.1.later d))|(go_at_call 119;(with_reducible refine j.mono ?_);clear j;rintro e Z⟨Q,rfl,A,f⟩;have i:=i.later f;have f:=aC d f;have o:=s.2.2.later f;have I:=aN R k3 v3 _ S U (.nd k2 v2 ol a) (.nd k v c r) P Q B (by show ol.size+1+a.size<=1000000;omega) (by show c.size+1+r.size<=1000000;omega) Z (fun b h=>g.2.2.2.2.2 b (zx f.size h)) o i A)|(go_at_call 119;(with_reducible refine I.mono ?_);clear I;rintro e x3⟨p3,rfl,X,m⟩;have m:=aC f m;have y:=s.2.2.later m))
    go_wp2_with fail;go_ret;exact⟨_,p3,rfl,X,by simp[T.az],m⟩
theorem aU(b:Nat)(k:VX M)(v:SV)(n:Int)(xl xr:Option Addr)(l r:T (VX M) SV)(pl pr:Option Addr)(B:Nat->Prop)(hs:l.size+1+r.size<=1000000)(W:World)(hB:∀b,W.heap.size<=b->B b)(hb:Nd W b k v n xl xr)(h1:Tr W B l pl)(h2:Tr W B r pr):Calls prog 88 #[.pointer (some ⟨b,0,none⟩),.pointer pl,.pointer pr] W (iy W B (l.az++(k,v)::r.az)):=by
 have d:=aX l pl B (by omega) W h1;have wr:=aX r pr B (by omega) W h2;by_cases c1:3*(l.size+1)<r.size+1
 ·have f:3*((l.size:Int)+1)<(r.size:Int)+1:=(by omega);have c:=xC b k v n xl xr l r pl pr B (by intro e;rw[e]at c1;simp[T.size]at c1) hs W hB hb h1 h2;go_enter func88,ntmps88
  go_wp2_with (first|(go_at_call 116;(with_reducible refine wr.mono ?_);rintro e a⟨rfl,rfl⟩)|(go_at_call 116;(with_reducible refine d.mono ?_);rintro e a⟨rfl,rfl⟩)|(go_at_call 117;refine c.mono ?_;rintro e a⟨t,p,rfl,h⟩))
  go_ret;exact⟨t,p,rfl,h⟩
 have f:¬ 3*((l.size:Int)+1)<(r.size:Int)+1:=(by omega);by_cases c2:3*(r.size+1)<l.size+1
 ·have g:3*((r.size:Int)+1)<(l.size:Int)+1:=(by omega);have c:=xD b k v n xl xr l r pl pr B (by intro e;rw[e]at c2;simp[T.size]at c2) hs W hB hb h1 h2;go_enter func88,ntmps88
  go_wp2_with (first|(go_at_call 116;(with_reducible refine wr.mono ?_);rintro e a⟨rfl,rfl⟩)|(go_at_call 116;(with_reducible refine d.mono ?_);rintro e a⟨rfl,rfl⟩)|(go_at_call 118;refine c.mono ?_;rintro e a⟨t,p,rfl,h⟩))
  go_ret;exact⟨t,p,rfl,h⟩
 have g:¬ 3*((r.size:Int)+1)<(l.size:Int)+1:=(by omega);have c:=aN b k v n xl xr l r pl pr B (by omega) (by omega) W hB hb h1 h2;go_enter func88,ntmps88
 go_wp2_with (first|(go_at_call 116;(with_reducible refine wr.mono ?_);rintro e a⟨rfl,rfl⟩)|(go_at_call 116;(with_reducible refine d.mono ?_);rintro e a⟨rfl,rfl⟩)|(go_at_call 119;refine c.mono ?_;rintro e a⟨p,rfl,j,i⟩))
 go_ret;exact⟨_,p,rfl,j,rfl,i⟩
variable{M:Nat}
def Cmp(W0:World)(cv:Value)(key:VX M->Int):Prop:=∃(g:Nat) (lb:Array Value),cv=.func (.func g) #[] lb/\(∀a w,(callFunc g a).run prog w=.ok (.enter g a) w)/\∀w (a b:VX M),Below 0 W0 w->Calls prog g (#[.agg #[.int .i64 (a).1.1,.int .i64 (a).1.2.1,.string (a).1.2.2],.agg #[.int .i64 (b).1.1,.int .i64 (b).1.2.1,.string (b).1.2.2]]++lb) w fun e w'=>e=.returned (.int .i64 (cy (key a) (key b)))/\Below w.heap.size w w'
theorem eV{W0:World}{cv:Value}{key:VX M->Int}(hc:Cmp W0 cv key)(B:Nat->Prop)(k:VX M)(v:SV):∀(t:T (VX M) SV) (p:Option Addr) (W:World),Srt key t.az->t.size+1<=1000000->(∀b,W.heap.size<=b->B b)->Below 0 W0 W->Tr W B t p ->
   Calls prog 52 #[.pointer p,cv,.agg #[.int .i64 (k).1.1,.int .i64 (k).1.2.1,.string (k).1.2.2],.slice v.1 v.2.1 v.2.2] W (iy W B (bn key k v t.az))
 | .nil,p,W,_,_,hB,_,h=>by
  obtain rfl:p=none:=h;have m:=aD W (.cells #[.int .i64 k.1.1,.int .i64 k.1.2.1,.string k.1.2.2] 32);have H:=z7 W (.cells #[.int .i64 k.1.1,.int .i64 k.1.2.1,.string k.1.2.2] 32);obtain⟨d,A⟩:=ae (W.alloc (.cells #[.int .i64 k.1.1,.int .i64 k.1.2.1,.string k.1.2.2] 32));obtain⟨X,Z⟩:=ae W.heap.size;rw[A]at m H;rw[Z]at H;have x0:=aA H 0;have x1:=aA H 1;have x2:=aA H 2;have x:=aa (ab A (ab Z (ab m hB)));clear A Z m H hB;go_enter func52,ntmps52;go_upto_region 1 with fail;rw[x.1,x.2.1];go_wp2_with fail;go_ret;exact⟨.nd k v .nil .nil,_,rfl,gW d B (fun b h=>x.2.2.2 b (zx x.2.2.1.size h)) k v .nil .nil _ rfl none none rfl rfl,rfl,aC x.2.2.1 (aD d _)⟩
 | .nd a u l r,p,W,hso,hs,hB,hD,h=>by
  obtain⟨b,U,V,rfl,hb,hh,hl,hr⟩:=h;have hn:=bO hh;obtain⟨sl,sr,a5,b0⟩:=hso.split;have b1:l.size+1+r.size+1<=1000000:=hs;obtain⟨g,lb,rfl,a9,a6⟩:=id hc;have m:=aD W (.cells #[.int .i64 k.1.1,.int .i64 k.1.2.1,.string k.1.2.2] 32);have H:=z7 W (.cells #[.int .i64 k.1.1,.int .i64 k.1.2.1,.string k.1.2.2] 32);obtain⟨d,A⟩:=ae (W.alloc (.cells #[.int .i64 k.1.1,.int .i64 k.1.2.1,.string k.1.2.2] 32));obtain⟨X,Z⟩:=ae W.heap.size;rw[A]at m H;rw[Z]at H;have xl:=aB H;have E:Below d.heap.size d d.drew:=(zg _ _).drew;have n:=a6 d.drew k a (hD.trans ((aC m E).mono (zj _)))
  have HK:Hid (∀y,Below d.heap.size d y->y.cell? ⟨X,0,none⟩=some (.int .i64 k.1.1)/\y.cell? ⟨X,1,none⟩=some (.int .i64 k.1.2.1)/\y.cell? ⟨X,2,none⟩=some (.string k.1.2.2)):=aa (fun y i=>by
   have k2:=(i.block X xl).trans H;exact⟨aA k2 0,aA k2 1,aA k2 2⟩)
  have s:=aa (ab (fun(y:World) (i:Below d.heap.size d y)=>hn.later (aC m i)) (ab hl hr));have x:=aa (ab A (ab Z (ab m (ab hB hD))));have Q:Hid (∀y,Below d.heap.size d y->y.cell? ⟨X,0,none⟩=some (.int .i64 k.1.1)/\y.cell? ⟨X,1,none⟩=some (.int .i64 k.1.2.1)/\y.cell? ⟨X,2,none⟩=some (.string k.1.2.2)/\y.cell? ⟨b,0,none⟩=some (.int .i64 a.1.1)/\y.cell? ⟨b,1,none⟩=some (.int .i64 a.1.2.1)/\y.cell? ⟨b,2,none⟩=some (.string a.1.2.2)):=aa (fun y i=>⟨(HK.out y i).1,(HK.out y i).2.1,(HK.out y i).2.2,(s.1 y i).c0,(s.1 y i).d1,(s.1 y i).d2⟩);have Y:Hid (∀y,Below d.heap.size d y->y.cell? ⟨X,0,none⟩=some (.int .i64 k.1.1)/\y.cell? ⟨X,1,none⟩=some (.int .i64 k.1.2.1)/\y.cell? ⟨X,2,none⟩=some (.string k.1.2.2)/\y.cell? ⟨b,5,none⟩=some (.pointer U)/\y.cell? ⟨b,6,none⟩=some (.pointer V)):=aa (fun y i=>⟨(HK.out y i).1,(HK.out y i).2.1,(HK.out y i).2.2,(s.1 y i).c3,(s.1 y i).c4⟩);have R:=zg d.heap.size d;clear hn hl hr hh A Z m hB hD H;go_enter func52,ntmps52;go_upto_region 1 with fail;rw[x.1,x.2.1];have e1:=(Q.out d R).1;go_upto_region 3 with fail;clear e1;by_cases h1:key k<key a
  ·have z:cy (key k) (key a)<0:=fF.2 h1;generalize cy (key k) (key a)=o at n z
   go_region_held3 (fun w=>w.cell? ⟨X,0,none⟩=some (.int .i64 k.1.1)/\w.cell? ⟨X,1,none⟩=some (.int .i64 k.1.2.1)/\w.cell? ⟨X,2,none⟩=some (.string k.1.2.2)/\w.cell? ⟨b,0,none⟩=some (.int .i64 a.1.1)/\w.cell? ⟨b,1,none⟩=some (.int .i64 a.1.2.1)/\w.cell? ⟨b,2,none⟩=some (.string a.1.2.2)) (first|exact Q.out _ R|exact Q.out _ E|exact Q.out _ f) (first|((with_reducible refine n.mono ?_);rintro e I⟨rfl,J⟩;have f:=aC E J;clear n))
   have j:Below d.heap.size d I.drew:=f.drew;have c:=aC x.2.2.1 j;go_upto_region 5 with fail;have ih:=eV hc B k v l U I.drew sl (by omega) (fun q S=>x.2.2.2.1 q (zx c.size S)) (x.2.2.2.2.trans (c.mono (zj _))) (s.2.1.later c)
   go_region_held3 (fun w=>w.cell? ⟨X,0,none⟩=some (.int .i64 k.1.1)/\w.cell? ⟨X,1,none⟩=some (.int .i64 k.1.2.1)/\w.cell? ⟨X,2,none⟩=some (.string k.1.2.2)/\w.cell? ⟨b,5,none⟩=some (.pointer U)/\w.cell? ⟨b,6,none⟩=some (.pointer V)) (first|exact Y.out _ f|exact Y.out _ j|exact Y.out _ F|exact Y.out _ a0) (first|(go_at_call 52;(with_reducible refine ih.mono ?_);clear ih;rintro e y1⟨t1,p1,rfl,a1,L,N⟩;have F:=aC j N;have G:=aC c N;have O:=aU b a u _ _ _ t1 r p1 V B (by have:=aZ L;rw[bY sl,T.len]at this;split at this <;> omega) y1 (fun q S=>x.2.2.2.1 q (zx G.size S)) (s.1 y1 F) a1 (s.2.2.later G))|(go_at_call 88;(with_reducible refine O.mono ?_);clear O;rintro e y2⟨t2,p2,rfl,a2,a3,P⟩;have a0:=aC F P;have a4:=aC G P))
   go_wp2_with fail;go_ret;exact⟨t2,p2,rfl,a2,by rw[a3,L,T.az,qO h1],a4⟩
  ·by_cases h2:key a<key k
   ·have z:0<cy (key k) (key a):=fG.2 h2;generalize cy (key k) (key a)=o at n z
    go_region_held3 (fun w=>w.cell? ⟨X,0,none⟩=some (.int .i64 k.1.1)/\w.cell? ⟨X,1,none⟩=some (.int .i64 k.1.2.1)/\w.cell? ⟨X,2,none⟩=some (.string k.1.2.2)/\w.cell? ⟨b,0,none⟩=some (.int .i64 a.1.1)/\w.cell? ⟨b,1,none⟩=some (.int .i64 a.1.2.1)/\w.cell? ⟨b,2,none⟩=some (.string a.1.2.2)) (first|exact Q.out _ R|exact Q.out _ E|exact Q.out _ f) (first|((with_reducible refine n.mono ?_);rintro e I⟨rfl,J⟩;have f:=aC E J;clear n))
    have j:Below d.heap.size d I.drew:=f.drew;have c:=aC x.2.2.1 j;go_upto_region 7 with fail;have ih:=eV hc B k v r V I.drew sr (by omega) (fun q S=>x.2.2.2.1 q (zx c.size S)) (x.2.2.2.2.trans (c.mono (zj _))) (s.2.2.later c)
    go_region_held3 (fun w=>w.cell? ⟨X,0,none⟩=some (.int .i64 k.1.1)/\w.cell? ⟨X,1,none⟩=some (.int .i64 k.1.2.1)/\w.cell? ⟨X,2,none⟩=some (.string k.1.2.2)/\w.cell? ⟨b,5,none⟩=some (.pointer U)/\w.cell? ⟨b,6,none⟩=some (.pointer V)) (first|exact Y.out _ f|exact Y.out _ j|exact Y.out _ F|exact Y.out _ a0) (first|(go_at_call 52;(with_reducible refine ih.mono ?_);clear ih;rintro e y1⟨t1,p1,rfl,a1,L,N⟩;have F:=aC j N;have G:=aC c N;have O:=aU b a u _ _ _ l t1 U p1 B (by have:=aZ L;rw[bY sr,T.len]at this;split at this <;> omega) y1 (fun q S=>x.2.2.2.1 q (zx G.size S)) (s.1 y1 F) (s.2.1.later G) a1)|(go_at_call 88;(with_reducible refine O.mono ?_);clear O;rintro e y2⟨t2,p2,rfl,a2,a3,P⟩;have a0:=aC F P;have a4:=aC G P))
    go_wp2_with fail;go_ret;exact⟨t2,p2,rfl,a2,by rw[a3,L,T.az,jA (fun p hp=>by have:=a5 p hp;show key p.1<key k;omega),bn,zu (by omega),zw h2],a4⟩
   ·have he:key a=key k:=(by omega);have z:cy (key k) (key a)=0:=cE.2 he.symm;rw[z]at n
    go_region_held3 (fun w=>w.cell? ⟨X,0,none⟩=some (.int .i64 k.1.1)/\w.cell? ⟨X,1,none⟩=some (.int .i64 k.1.2.1)/\w.cell? ⟨X,2,none⟩=some (.string k.1.2.2)/\w.cell? ⟨b,0,none⟩=some (.int .i64 a.1.1)/\w.cell? ⟨b,1,none⟩=some (.int .i64 a.1.2.1)/\w.cell? ⟨b,2,none⟩=some (.string a.1.2.2)) (first|exact Q.out _ R|exact Q.out _ E|exact Q.out _ f) (first|((with_reducible refine n.mono ?_);rintro e I⟨rfl,J⟩;have f:=aC E J;clear n))
    have j:Below d.heap.size d I.drew:=f.drew;have c:=aC x.2.2.1 j;have a7:=(fun o=>aC f (aD I o));have a8:=(fun o=>aC j (aD I.drew o));have H8:∀y,Below d.heap.size d y->y.cell? ⟨b,0,none⟩=some (.int .i64 a.1.1)/\y.cell? ⟨b,1,none⟩=some (.int .i64 a.1.2.1)/\y.cell? ⟨b,2,none⟩=some (.string a.1.2.2)/\y.cell? ⟨b,4,none⟩=some (.int .i64 ((l.size+1+r.size:Nat):Int))/\y.cell? ⟨b,5,none⟩=some (.pointer U)/\y.cell? ⟨b,6,none⟩=some (.pointer V):=(fun y i=>⟨(s.1 y i).c0,(s.1 y i).d1,(s.1 y i).d2,(s.1 y i).c2,(s.1 y i).c3,(s.1 y i).c4⟩);have H8:=aa H8;go_upto_region 8 with fail
    go_region_held3 (fun w=>w.cell? ⟨b,0,none⟩=some (.int .i64 a.1.1)/\w.cell? ⟨b,1,none⟩=some (.int .i64 a.1.2.1)/\w.cell? ⟨b,2,none⟩=some (.string a.1.2.2)/\w.cell? ⟨b,4,none⟩=some (.int .i64 ((l.size+1+r.size:Nat):Int))/\w.cell? ⟨b,5,none⟩=some (.pointer U)/\w.cell? ⟨b,6,none⟩=some (.pointer V)) (first|exact H8.out _ f|exact H8.out _ j|exact H8.out _ (a7 _) | exact H8.out _ (a8 _)) (fail)
    go_wp2_with fail;go_ret
    exact⟨.nd a v l r,_,rfl,gW I.drew B (fun q S=>x.2.2.2.1 q (zx c.size S)) a v l r _ (by omega) U V (s.2.1.later c) (s.2.2.later c),by
     show l.az++(a,v)::r.az=bn key k v (l.az++(a,u)::r.az);rw[jA (fun p hp=>by have:=a5 p hp;show key p.1<key k;omega),yN he],aC c (aD I.drew _)⟩
end Go.Proofs.YtkchgbjoeggdbaaGreat.Ix
namespace Go.Proofs.YtkchgbjoeggdbaaGreat.Co.S
open Go.Proofs.Tryz
open Go Go.RowKit Go.Proofs Go.Proofs.YtkchgbjoeggdbaaGreat Go.Proofs.YtkchgbjoeggdbaaGreat.Co
variable{M:Nat}
def iy(W:World)(B:Nat)(L:List (K M×Int))(e:Ending)(W':World):Prop:=∃t p,e=.returned (.pointer p)/\Tr W' B t p/\t.az=L/\Below W.heap.size W W'
theorem aZ{t:T (K M) Int}{L:List (K M×Int)}(h:t.az=L):t.size=L.length:=by rw[<-h,T.len]
theorem xC(b:Nat)(k:K M)(v:Int)(n:Int)(xl xr:Option Addr)(l r:T (K M) Int)(pl pr:Option Addr)(B:Nat)(hr0:r≠.nil)(hs:l.size+1+r.size<=1000000)(W:World)(hB:B<=W.heap.size)(hb:Nd W b k v n xl xr)(h1:Tr W B l pl)(h2:Tr W B r pr):Calls prog 213 #[.pointer (some ⟨b,0,none⟩),.pointer pl,.pointer pr] W (iy W B (l.az++(k,v)::r.az)):=by
 cases r with
 | nil=>exact absurd rfl hr0
 | nd k2 v2 il ol =>
  obtain⟨b2,I,op,rfl,f,A,J,L⟩:=h2;have E:=bO A;have a0:l.size+1+(il.size+1+ol.size)<=1000000:=hs;have N:=(fun q=>aX il I B (by omega) (W.drewN q) (J.drewN q));have X:=(fun q=>aX ol op B (by omega) (W.drewN q) (L.drewN q));have g:=aa (ab hb (ab h1 (ab E (ab J (ab L hB)))));clear hb h1 J L hB A;obtain⟨_,_,_,c3,c4⟩:=E;go_enter func213,ntmps213;go_wp2_with fail
  go_quiet (fail)
  clear c3 c4;by_cases hw:il.size+1<2*(ol.size+1)
  ·have F:((il.size:Int)+1)<2*((ol.size:Int)+1):=(by omega);have b1:=aN b k v n xl xr l il pl I B (by omega) (by omega) (W.drewN nq) g.2.2.2.2.2 (g.1.later (aF W nq)) (g.2.1.drewN nq) (g.2.2.2.1.drewN nq)
   go_wp2_with (first|(go_at_call 212;(with_reducible refine(N _).mono ?_);rintro e y⟨rfl,rfl⟩)|(go_at_call 212;(with_reducible refine(X _).mono ?_);rintro e y⟨rfl,rfl⟩)|(go_at_call 215;(with_reducible refine b1.mono ?_);clear b1;rintro e y⟨O,rfl,h,d⟩;have d:=aC (aF W nq) d;have i:=aN b2 k2 v2 _ I op (.nd k v l il) ol O op B (by show l.size+1+il.size<=1000000;omega) (by omega) y (zx g.2.2.2.2.2 d.size) (g.2.2.1.later d) h (g.2.2.2.2.1.later d))|(go_at_call 215;(with_reducible refine i.mono ?_);clear i;rintro e Y⟨P,rfl,z,f⟩))
   go_ret;exact⟨_,P,rfl,z,by simp[T.az],aC d f⟩
  ·have F:¬ ((il.size:Int)+1)<2*((ol.size:Int)+1):=(by omega);cases il with
   | nil=>exact absurd hw (by simp[T.size];omega)
   | nd k3 v3 a c =>
    obtain⟨Q,R,S,rfl,j,G,U,Z⟩:=g.2.2.2.1;have o:=bO G;have a1:l.size+1+(a.size+1+c.size+1+ol.size)<=1000000:=hs;have b1:=aN b k v n xl xr l a pl R B (by omega) (by omega) (W.drewN (nq+1)) g.2.2.2.2.2 (g.1.later (aF W (nq+1))) (g.2.1.drewN (nq+1)) (U.drewN (nq+1));have p:=aa (ab U (ab Z o));have s:=o.later (aF W nq);have t:=o.later (aF W (nq+1));clear U Z G o;generalize (T.nd k3 v3 a c).size=zi at N F
    go_upto_region 4 with (first|(go_at_call 212;(with_reducible refine(N _).mono ?_);rintro e y⟨rfl,rfl⟩)|(go_at_call 212;(with_reducible refine(X _).mono ?_);rintro e y⟨rfl,rfl⟩))
    go_region_held3 (fun w=>w.cell? ⟨Q,3,none⟩=some (.pointer R)/\w.cell? ⟨Q,4,none⟩=some (.pointer S)) (first|exact⟨s.c3,s.c4⟩ | exact⟨u.c3,u.c4⟩ | exact⟨m.c3,m.c4⟩ | exact⟨x.c3,x.c4⟩ | exact⟨t.c3,t.c4⟩) (first|(go_at_call 215;(with_reducible refine b1.mono ?_);clear b1;rintro e y⟨O,rfl,h,d⟩;have d:=aC (aF W (nq+1)) d;have u:=p.2.2.later d;have i:=aN b2 k2 v2 _ _ op c ol S op B (by omega) (by omega) y (zx g.2.2.2.2.2 d.size) (g.2.2.1.later d) (p.2.1.later d) (g.2.2.2.2.1.later d))|(go_at_call 215;(with_reducible refine i.mono ?_);clear i;rintro e Y⟨P,rfl,z,f⟩;have h:=h.later f;have f:=aC d f;have m:=p.2.2.later f;have H:=aN Q k3 v3 _ R S (.nd k v l a) (.nd k2 v2 c ol) O P B (by show l.size+1+a.size<=1000000;omega) (by show c.size+1+ol.size<=1000000;omega) Y (zx g.2.2.2.2.2 f.size) m h z)|(go_at_call 215;(with_reducible refine H.mono ?_);clear H;rintro e x3⟨p3,rfl,V,j⟩;have j:=aC f j;have x:=p.2.2.later j))
    go_wp2_with fail;go_ret;exact⟨_,p3,rfl,V,by simp[T.az],j⟩
variable{M:Nat}
theorem xD(b:Nat)(k:K M)(v:Int)(n:Int)(xl xr:Option Addr)(l r:T (K M) Int)(pl pr:Option Addr)(B:Nat)(hl0:l≠.nil)(hs:l.size+1+r.size<=1000000)(W:World)(hB:B<=W.heap.size)(hb:Nd W b k v n xl xr)(h1:Tr W B l pl)(h2:Tr W B r pr):Calls prog 214 #[.pointer (some ⟨b,0,none⟩),.pointer pl,.pointer pr] W (iy W B (l.az++(k,v)::r.az)):=by
 cases l with
 | nil=>exact absurd rfl hl0
 | nd k2 v2 ol il =>
  obtain⟨b2,op,I,rfl,f,A,J,L⟩:=h1;have E:=bO A;have a0:(ol.size+1+il.size)+1+r.size<=1000000:=hs;have N:=(fun q=>aX il I B (by omega) (W.drewN q) (L.drewN q));have X:=(fun q=>aX ol op B (by omega) (W.drewN q) (J.drewN q));have g:=aa (ab hb (ab h2 (ab E (ab L (ab J hB)))));clear hb h2 L J hB A;obtain⟨_,_,_,c3,c4⟩:=E;go_enter func214,ntmps214;go_wp2_with fail
  go_quiet (fail)
  clear c3 c4;by_cases hw:il.size+1<2*(ol.size+1)
  ·have F:((il.size:Int)+1)<2*((ol.size:Int)+1):=(by omega);have b1:=aN b k v n xl xr il r I pr B (by omega) (by omega) (W.drewN nq) g.2.2.2.2.2 (g.1.later (aF W nq)) (g.2.2.2.1.drewN nq) (g.2.1.drewN nq)
   go_wp2_with (first|(go_at_call 212;(with_reducible refine(N _).mono ?_);rintro e y⟨rfl,rfl⟩)|(go_at_call 212;(with_reducible refine(X _).mono ?_);rintro e y⟨rfl,rfl⟩)|(go_at_call 215;(with_reducible refine b1.mono ?_);clear b1;rintro e y⟨O,rfl,h,d⟩;have d:=aC (aF W nq) d;have i:=aN b2 k2 v2 _ op I ol (.nd k v il r) op O B (by omega) (by show il.size+1+r.size<=1000000;omega) y (zx g.2.2.2.2.2 d.size) (g.2.2.1.later d) (g.2.2.2.2.1.later d) h)|(go_at_call 215;(with_reducible refine i.mono ?_);clear i;rintro e Y⟨P,rfl,z,f⟩))
   go_ret;exact⟨_,P,rfl,z,by simp[T.az],aC d f⟩
  ·have F:¬ ((il.size:Int)+1)<2*((ol.size:Int)+1):=(by omega);cases il with
   | nil=>exact absurd hw (by simp[T.size];omega)
   | nd k3 v3 a c =>
    obtain⟨Q,R,S,rfl,j,G,U,Z⟩:=g.2.2.2.1;have o:=bO G;have a1:(ol.size+1+(a.size+1+c.size))+1+r.size<=1000000:=hs;have b1:=aN b2 k2 v2 _ _ _ ol a op R B (by omega) (by omega) (W.drewN (nq+1)) g.2.2.2.2.2 (g.2.2.1.later (aF W (nq+1))) (g.2.2.2.2.1.drewN (nq+1)) (U.drewN (nq+1));have p:=aa (ab U (ab Z o));have s:=o.later (aF W nq);have t:=o.later (aF W (nq+1));clear U Z G o;generalize (T.nd k3 v3 a c).size=zi at N F
    go_upto_region 4 with (first|(go_at_call 212;(with_reducible refine(N _).mono ?_);rintro e y⟨rfl,rfl⟩)|(go_at_call 212;(with_reducible refine(X _).mono ?_);rintro e y⟨rfl,rfl⟩))
    go_region_held3 (fun w=>w.cell? ⟨Q,3,none⟩=some (.pointer R)/\w.cell? ⟨Q,4,none⟩=some (.pointer S)) (first|exact⟨s.c3,s.c4⟩ | exact⟨u.c3,u.c4⟩ | exact⟨m.c3,m.c4⟩ | exact⟨x.c3,x.c4⟩ | exact⟨t.c3,t.c4⟩) (first|(go_at_call 215;(with_reducible refine b1.mono ?_);clear b1;rintro e y⟨O,rfl,h,d⟩;have d:=aC (aF W (nq+1)) d;have u:=p.2.2.later d;have i:=aN b k v _ _ _ c r S pr B (by omega) (by omega) y (zx g.2.2.2.2.2 d.size) (g.1.later d) (p.2.1.later d) (g.2.1.later d))|(go_at_call 215;(with_reducible refine i.mono ?_);clear i;rintro e Y⟨P,rfl,z,f⟩;have h:=h.later f;have f:=aC d f;have m:=p.2.2.later f;have H:=aN Q k3 v3 _ R S (.nd k2 v2 ol a) (.nd k v c r) O P B (by show ol.size+1+a.size<=1000000;omega) (by show c.size+1+r.size<=1000000;omega) Y (zx g.2.2.2.2.2 f.size) m h z)|(go_at_call 215;(with_reducible refine H.mono ?_);clear H;rintro e x3⟨p3,rfl,V,j⟩;have j:=aC f j;have x:=p.2.2.later j))
    go_wp2_with fail;go_ret;exact⟨_,p3,rfl,V,by simp[T.az],j⟩
theorem aU(b:Nat)(k:K M)(v:Int)(n:Int)(xl xr:Option Addr)(l r:T (K M) Int)(pl pr:Option Addr)(B:Nat)(hs:l.size+1+r.size<=1000000)(W:World)(hB:B<=W.heap.size)(hb:Nd W b k v n xl xr)(h1:Tr W B l pl)(h2:Tr W B r pr):Calls prog 203 #[.pointer (some ⟨b,0,none⟩),.pointer pl,.pointer pr] W (iy W B (l.az++(k,v)::r.az)):=by
 have d:=aX l pl B (by omega) W h1;have wr:=aX r pr B (by omega) W h2;by_cases c1:3*(l.size+1)<r.size+1
 ·have f:3*((l.size:Int)+1)<(r.size:Int)+1:=(by omega);have c:=xC b k v n xl xr l r pl pr B (by intro e;rw[e]at c1;simp[T.size]at c1) hs W hB hb h1 h2;go_enter func203,ntmps203
  go_wp2_with (first|(go_at_call 212;(with_reducible refine wr.mono ?_);rintro e a⟨rfl,rfl⟩)|(go_at_call 212;(with_reducible refine d.mono ?_);rintro e a⟨rfl,rfl⟩)|(go_at_call 213;refine c.mono ?_;rintro e a⟨t,p,rfl,h⟩))
  go_ret;exact⟨t,p,rfl,h⟩
 have f:¬ 3*((l.size:Int)+1)<(r.size:Int)+1:=(by omega);by_cases c2:3*(r.size+1)<l.size+1
 ·have g:3*((r.size:Int)+1)<(l.size:Int)+1:=(by omega);have c:=xD b k v n xl xr l r pl pr B (by intro e;rw[e]at c2;simp[T.size]at c2) hs W hB hb h1 h2;go_enter func203,ntmps203
  go_wp2_with (first|(go_at_call 212;(with_reducible refine wr.mono ?_);rintro e a⟨rfl,rfl⟩)|(go_at_call 212;(with_reducible refine d.mono ?_);rintro e a⟨rfl,rfl⟩)|(go_at_call 214;refine c.mono ?_;rintro e a⟨t,p,rfl,h⟩))
  go_ret;exact⟨t,p,rfl,h⟩
 have g:¬ 3*((r.size:Int)+1)<(l.size:Int)+1:=(by omega);have c:=aN b k v n xl xr l r pl pr B (by omega) (by omega) W hB hb h1 h2;go_enter func203,ntmps203
 go_wp2_with (first|(go_at_call 212;(with_reducible refine wr.mono ?_);rintro e a⟨rfl,rfl⟩)|(go_at_call 212;(with_reducible refine d.mono ?_);rintro e a⟨rfl,rfl⟩)|(go_at_call 215;refine c.mono ?_;rintro e a⟨p,rfl,j,i⟩))
 go_ret;exact⟨_,p,rfl,j,rfl,i⟩
variable{M:Nat}
theorem Ci(B:Nat):∀(t:T (K M) Int) (p:Option Addr) (W:World),t≠.nil->t.size<=1000000->B<=W.heap.size->Tr W B t p->Calls prog 218 #[.pointer p] W (iy W B t.az.tail)
 | .nil,_,_,h,_,_,_=>absurd rfl h
 | .nd k v .nil r,p,W,_,_,_,h=>by
  obtain⟨b,s,l,rfl,_,m,n,o⟩:=h;obtain rfl:s=none:=n;obtain⟨_,_,_,c3,c4⟩:=bO m;go_enter func218,ntmps218;go_wp2_with fail;go_ret;exact⟨r,l,rfl,o,rfl,.refl _ _⟩
 | .nd k v (.nd k2 v2 l2 r2) r,p,W,_,hs,hB,h=>by
  obtain⟨b,s,l,rfl,_,m,n,o⟩:=h;have u:=bO m;have E:(l2.size+1+r2.size)+1+r.size<=1000000:=hs;have A:=Ci B (.nd k2 v2 l2 r2) s W.drew (by simp) (by show l2.size+1+r2.size<=1000000;omega) hB n.drew;have q:=aa (ab u (ab o hB));obtain⟨bl,_,_,rfl,_⟩:=n;have f:=u.later (zg _ W).drew;obtain⟨_,_,_,c3,c4⟩:=u;clear m o;go_enter func218,ntmps218;go_wp2_with fail
  go_region_held3 (fun w=>w.cell? ⟨b,3,none⟩=some (.pointer (some ⟨bl,0,none⟩))/\w.cell? ⟨b,4,none⟩=some (.pointer l)) (first|exact⟨c3,c4⟩ | exact⟨f.c3,f.c4⟩ | exact⟨d.c3,d.c4⟩ | exact⟨g.c3,g.c4⟩) (first|(go_at_call 218;(with_reducible refine A.mono ?_);clear A;rintro e F⟨G,H,rfl,x,i,a⟩;have a:=aC (zg _ W).drew a;have d:=q.1.later a;have j:=aU b k v _ _ _ G r H l B (by have:=aZ i;rw[List.length_tail,T.len]at this;simp only[T.size]at this;omega) F (zx q.2.2 a.size) d x (q.2.1.later a))|(go_at_call 203;(with_reducible refine j.mono ?_);clear j;rintro e L⟨I,J,rfl,y,z,c⟩;have c:=aC a c;have g:=q.1.later c))
  go_wp2_with fail;go_ret;refine⟨I,J,rfl,y,?_,c⟩;rw[z,i];show _=((T.nd k2 v2 l2 r2).az++(k,v)::r.az).tail;rw[List.tail_append_of_ne_nil (by simp[T.az])]
theorem Cq(B:Nat):∀(t:T (K M) Int) (p:Option Addr) (W:World),t≠.nil->t.size<=1000000->B<=W.heap.size->Tr W B t p->Calls prog 217 #[.pointer p] W (iy W B t.az.dropLast)
 | .nil,_,_,h,_,_,_=>absurd rfl h
 | .nd k v l .nil,p,W,_,_,_,h=>by
  obtain⟨b,m,s,rfl,_,n,o,q⟩:=h;obtain rfl:s=none:=q;obtain⟨_,_,_,c3,c4⟩:=bO n;go_enter func217,ntmps217;go_wp2_with fail;go_ret;exact⟨l,m,rfl,o,by simp[T.az],.refl _ _⟩
 | .nd k v l (.nd k2 v2 l2 r2),p,W,_,hs,hB,h=>by
  obtain⟨b,m,s,rfl,_,n,o,q⟩:=h;have u:=bO n;have E:l.size+1+(l2.size+1+r2.size)<=1000000:=hs;have A:=Cq B (.nd k2 v2 l2 r2) s W.drew (by simp) (by show l2.size+1+r2.size<=1000000;omega) hB q.drew;have r:=aa (ab u (ab o hB));obtain⟨bl,_,_,rfl,_⟩:=q;have f:=u.later (zg _ W).drew;obtain⟨_,_,_,c3,c4⟩:=u;clear n o;go_enter func217,ntmps217;go_wp2_with fail
  go_region_held3 (fun w=>w.cell? ⟨b,3,none⟩=some (.pointer m)/\w.cell? ⟨b,4,none⟩=some (.pointer (some ⟨bl,0,none⟩))) (first|exact⟨c3,c4⟩ | exact⟨f.c3,f.c4⟩ | exact⟨d.c3,d.c4⟩ | exact⟨g.c3,g.c4⟩) (first|(go_at_call 217;(with_reducible refine A.mono ?_);clear A;rintro e F⟨G,H,rfl,x,i,a⟩;have a:=aC (zg _ W).drew a;have d:=r.1.later a;have j:=aU b k v _ _ _ l G m H B (by have:=aZ i;rw[List.length_dropLast,T.len]at this;simp only[T.size]at this;omega) F (zx r.2.2 a.size) d (r.2.1.later a) x)|(go_at_call 203;(with_reducible refine j.mono ?_);clear j;rintro e L⟨I,J,rfl,y,z,c⟩;have c:=aC a c;have g:=r.1.later c))
  go_wp2_with fail;go_ret;refine⟨I,J,rfl,y,?_,c⟩;rw[z,i];show _=(l.az++(k,v)::(T.nd k2 v2 l2 r2).az).dropLast;rw[List.dropLast_append_of_ne_nil (by simp),List.dropLast_cons_of_ne_nil (by simp[T.az])]
def look(L:List (K M×Int))(i:Int):Option (K M×Int):=if 0<=i then L[i.toNat]? else none
def Found(W:World)(B:Nat):Option (K M×Int)->Option Addr->Prop
 | none,q=>q=none
 | some kv,q=>∃b n lp rp,q=some ⟨b,0,none⟩/\B<=b/\Nd W b kv.1 kv.2 n lp rp
def Ac(w:World):Value->Nat
 | .pointer (some a)=>match w.cell? ⟨a.block,2,none⟩with | some (.int _ n)=>n.toNat | _=>0
 | _=>0
theorem gB{W:World}{B:Nat}{t:T (K M) Int}{p:Option Addr}(h:Tr W B t p):Ac W (.pointer p)=t.size:=by
 cases t with
 | nil=>obtain rfl:p=none:=h;rfl
 | nd k v l r =>
  obtain⟨b,c,d,rfl,_,a,_⟩:=h;simp only[Ac,(bO a).c2,T.size];omega
theorem Fk{L R:List (K M×Int)}{kv:K M×Int}{i:Int}(h:i<L.length):look (L++kv::R) i=look L i:=by
 unfold look;split
 ·rw[xu (by omega)]
 rfl
theorem qY{L R:List (K M×Int)}{kv:K M×Int}{i:Int}(h:i=L.length):look (L++kv::R) i=some kv:=by
 unfold look;rw[zw (by omega),h]
 simp
theorem xE{L R:List (K M×Int)}{kv:K M×Int}{i:Int}(h:(L.length:Int)<i):look (L++kv::R) i=look R (i-(L.length+1)):=by
 unfold look;rw[zw (by omega),zw (by omega),ya (by omega)];obtain⟨j,a⟩:∃j:Nat,i.toNat-L.length=j+1:=⟨i.toNat-L.length-1,by omega⟩;rw[a,List.getElem?_cons_succ]
 congr 1
 omega
theorem look_nil(i:Int):look ([]:List (K M×Int)) i=none:=by unfold look;split <;> rfl
theorem Cf(B:Nat)(t:T (K M) Int)(p:Option Addr)(i:Int)(hi0:-9223372036854775808<=i)(hi1:i<=9223372036854775807)(hs:t.size<=1000000)(W:World)(h:Tr W B t p):Calls prog 216 #[.pointer p,.int .i64 i] W fun e P=>P=W/\∃q,e=.returned (.pointer q)/\Found W B (look t.az i) q:=by
 go_enter func216,ntmps216;go_wp2_with fail
 go_loopw [0,1] (fun pv iv w=>∃(j:T (K M) Int) (x:Option Addr) (d:Int),pv=.pointer x/\iv=.int .i64 d/\w=W/\Tr W B j x/\j.size<=1000000/\-9223372036854775808<=d/\d<=9223372036854775807/\look t.az i=look j.az d) (fun pv _ w=>Ac w pv)
 case atStart=>exact⟨t,p,i,rfl,rfl,rfl,h,hs,hi0,hi1,rfl⟩
 obtain⟨j,x,d,rfl,rfl,rfl,y,z,A,E,a⟩:=hrel;have m:=gB y;cases j with
 | nil =>
  obtain rfl:x=none:=y;go_wp2_with fail;go_ret;exact⟨rfl,none,rfl,by rw[a,T.az,look_nil];rfl⟩
 | nd k v l r =>
  obtain⟨b,I,Q,rfl,R,J,F,L⟩:=y;have N:=bO J;have S:=aa N;have cl:=ax l I B wr F;have G:l.size+1+r.size<=1000000:=z;have g:=gB F;have n:=gB L;have o:=T.len l;obtain⟨H,s⟩:=ae l.size;rw[s]at cl g o G;obtain⟨_,_,_,c3,c4⟩:=N;have c:=aa m;have u:=aa (ab g n);clear m g n J;have f:(T.nd k v l r).size=H+1+r.size:=(by show l.size+1+r.size=_;rw[s]);rcases Int.lt_trichotomy d (H:Int)with U|V|X
  ·go_wp2_with (go_at_call 186;refine cl.mono ?_;rintro e O⟨rfl,rfl⟩);rw[f]at c;refine⟨⟨l,I,d,rfl,rfl,trivial,F,by omega,A,E,by rw[a,T.az,Fk (by omega)]⟩,by rw[c.out,u.1];omega⟩
  ·go_wp2_with (go_at_call 186;refine cl.mono ?_;rintro e O⟨rfl,rfl⟩);go_ret;exact⟨rfl,_,rfl,by rw[a,T.az,qY (by omega)];exact⟨b,_,_,_,rfl,R,S.out⟩⟩
  ·go_wp2_with (go_at_call 186;refine cl.mono ?_;rintro e O⟨rfl,rfl⟩);rw[f]at c;refine⟨⟨r,Q,d - (H+1),rfl,rfl,trivial,L,by omega,by omega,by omega,by rw[a,T.az,xE (by omega),o]⟩,by rw[c.out,u.2];omega⟩
theorem Ff(B:Nat)(l r:T (K M) Int)(pl pr:Option Addr)(hs:l.size+r.size<=1000000)(W:World)(hB:B<=W.heap.size)(h1:Tr W B l pl)(h2:Tr W B r pr):Calls prog 204 #[.pointer pl,.pointer pr] W (iy W B (l.az++r.az)):=by
 have cl:=ax l pl B W h1;have cr:=ax r pr B W h2;by_cases A:r.size<l.size
 ·have m:(r.size:Int)<(l.size:Int):=(by omega);have j:l≠.nil:=(by intro e;rw[e]at A;simp[T.size]at A);rcases List.eq_nil_or_concat l.az with e|⟨S,f,e⟩
  ·exact absurd (T.pz e) j
  rw[List.concat_eq_append]at e;have x:l.size=S.length+1:=(by rw[<-T.len,e];simp);have g:=Cf B l pl (S.length:Int) (by omega) (by omega) (by omega) W h1;rw[e,qY rfl]at g;have E:=Cq B l pl W j (by omega) hB h1;rw[x]at cl m;go_enter func204,ntmps204
  go_wp2_with (first|(go_at_call 186;(with_reducible refine cl.mono ?_);rintro e o⟨rfl,rfl⟩)|(go_at_call 186;(with_reducible refine cr.mono ?_);rintro e o⟨rfl,rfl⟩)|(go_at_call 216;refine g.mono ?_;rintro e o⟨rfl,q,rfl,b,n,F,G,rfl,U,H⟩)|(go_at_call 217;refine E.mono ?_;rintro e I⟨J,N,rfl,p,h,d⟩;have i:=aU b f.1 f.2 n F G J r N pr B (by have:=aZ h;rw[List.length_dropLast,T.len]at this;omega) I (zx hB d.size) (H.later d) p (h2.later d))|(go_at_call 203;refine i.mono ?_;clear i;rintro e V⟨O,P,rfl,s,t,u⟩))
  go_ret;refine⟨O,P,rfl,s,?_,aC d u⟩;rw[t,h,e]
  simp
 have m:¬ (r.size:Int)<(l.size:Int):=(by omega);cases r with
 | nil =>
  obtain rfl:pr=none:=h2
  have j:l=.nil:=by
   cases l with
   | nil=>rfl
   | nd k v a c=>exact absurd (by simp[T.size];omega) A
  subst j;go_enter func204,ntmps204
  go_wp2_with (first|(go_at_call 186;(with_reducible refine cl.mono ?_);rintro e o⟨rfl,rfl⟩)|(go_at_call 186;(with_reducible refine cr.mono ?_);rintro e o⟨rfl,rfl⟩))
  go_ret;exact⟨.nil,none,rfl,rfl,rfl,.refl _ _⟩
 | nd k v a c =>
  have y:=Ci B (.nd k v a c) pr W (by simp) (by omega) hB h2;have g:=Cf B (.nd k v a c) pr 0 (by omega) (by omega) (by omega) W h2
  obtain⟨f,w,z⟩:∃f w,(T.nd k v a c).az=f::w:=by
   cases X:(T.nd k v a c).az with
   | nil=>simp[T.az]at X
   | cons f w=>exact⟨f,w,rfl⟩
  have Q:look (f::w) 0=some f:=qY (L:=[]) rfl;rw[z,Q]at g;rw[z]at y;have R:(T.nd k v a c).size=w.length+1:=(by rw[<-T.len,z];simp);rw[z];rw[R]at cr m hs;have Y:=aa h2;obtain⟨b0,_,_,rfl,_⟩:=h2;go_enter func204,ntmps204
  go_wp2_with (first|(go_at_call 186;(with_reducible refine cl.mono ?_);rintro e o⟨rfl,rfl⟩)|(go_at_call 186;(with_reducible refine cr.mono ?_);rintro e o⟨rfl,rfl⟩)|(go_at_call 216;refine g.mono ?_;rintro e o⟨rfl,q,rfl,b,n,F,G,rfl,U,H⟩)|(go_at_call 218;refine y.mono ?_;rintro e I⟨J,N,rfl,p,h,d⟩;have i:=aU b f.1 f.2 n F G l J pl N B (by have:=aZ h;rw[List.tail_cons]at this;omega) I (zx hB d.size) (H.later d) (h1.later d) p)|(go_at_call 203;refine i.mono ?_;clear i;rintro e V⟨O,P,rfl,s,t,u⟩))
  go_ret;refine⟨O,P,rfl,s,?_,aC d u⟩;rw[t,h];rfl
variable{M:Nat}
def Cmp(D:Nat)(W0:World)(cv:Value)(key:K M->Int):Prop:=∃(g:Nat) (lb:Array Value),cv=.func (.func g) #[] lb/\(∀a w,(callFunc g a).run prog w=.ok (.enter g a) w)/\∀w (a b:K M),Below D W0 w->Calls prog g (#[.string (a).1,.string (b).1]++lb) w fun e w'=>e=.returned (.int .i64 (cy (key a) (key b)))/\∃q,w'=w.drewN q
theorem eV{D:Nat}{W0:World}{cv:Value}{key:K M->Int}(hc:Cmp D W0 cv key)(B:Nat)(hDB:D<=B)(k:K M)(v:Int):∀(t:T (K M) Int) (p:Option Addr) (W:World),Srt key t.az->t.size+1<=1000000->B<=W.heap.size->Below D W0 W->Tr W B t p ->
   Calls prog 187 #[.pointer p,cv,.string (k).1,.int .i64 v] W (iy W B (bn key k v t.az))
 | .nil,p,W,_,_,hB,_,h=>by
  obtain rfl:p=none:=h;go_enter func187,ntmps187;go_wp2_with fail;go_ret;exact⟨.nd k v .nil .nil,_,rfl,gW W B hB k v .nil .nil _ rfl none none rfl rfl,rfl,aD W _⟩
 | .nd a u l r,p,W,hso,hs,hB,hD,h=>by
  obtain⟨b,I,J,rfl,hb,hh,hl,hr⟩:=h;have X:=bO hh;obtain⟨sl,Y,N,a0⟩:=hso.split;have a1:l.size+1+r.size+1<=1000000:=hs;obtain⟨g,lb,rfl,Z,O⟩:=id hc;have x:=O W k a hD;have n:=aa (ab X (ab hl hr));obtain⟨c0,c1,c2,c3,c4⟩:=X;have HC:=aa (ab c0 (ab c1 (ab c2 (ab c3 c4))));have d:=(fun q=>aF W (q+1));by_cases h1:key k<key a
  ·have s:cy (key k) (key a)<0:=fF.2 h1;generalize cy (key k) (key a)=o at x s;go_enter func187,ntmps187;go_upto_region 5 with ((with_reducible refine x.mono ?_);rintro e L⟨rfl,q,rfl⟩);have P:=eV hc B hDB k v l I (W.drewN (q+1)) sl (by omega) hB (hD.trans ((d q).mono (zx hDB hB))) (n.2.1.drewN (q+1));have i:=n.1.later (aF W q);have y:=n.1.later (d q)
   go_region_held3 (fun w=>w.cell? ⟨b,3,none⟩=some (.pointer I)/\w.cell? ⟨b,4,none⟩=some (.pointer J)) (first|exact⟨i.c3,i.c4⟩ | exact⟨y.c3,y.c4⟩ | exact⟨f.c3,f.c4⟩ | exact⟨j.c3,j.c4⟩) (first|(go_at_call 187;(with_reducible refine P.mono ?_);clear P;rintro e L⟨Q,R,rfl,F,z,c⟩;have c:=aC (d q) c;have f:=n.1.later c;have A:=aU b a u _ _ _ Q r R J B (by have:=aZ z;rw[bY sl,T.len]at this;split at this <;> omega) L (zx hB c.size) f F (n.2.2.later c))|(go_at_call 203;(with_reducible refine A.mono ?_);clear A;rintro e x2⟨S,U,rfl,G,H,m⟩;have m:=aC c m;have j:=n.1.later m))
   go_wp2_with fail;go_ret;exact⟨S,U,rfl,G,by rw[H,z,T.az,qO h1],m⟩
  ·by_cases h2:key a<key k
   ·have s:0<cy (key k) (key a):=fG.2 h2;generalize cy (key k) (key a)=o at x s;go_enter func187,ntmps187;go_upto_region 7 with ((with_reducible refine x.mono ?_);rintro e L⟨rfl,q,rfl⟩);have P:=eV hc B hDB k v r J (W.drewN (q+1)) Y (by omega) hB (hD.trans ((d q).mono (zx hDB hB))) (n.2.2.drewN (q+1));have i:=n.1.later (aF W q);have y:=n.1.later (d q)
    go_region_held3 (fun w=>w.cell? ⟨b,3,none⟩=some (.pointer I)/\w.cell? ⟨b,4,none⟩=some (.pointer J)) (first|exact⟨i.c3,i.c4⟩ | exact⟨y.c3,y.c4⟩ | exact⟨f.c3,f.c4⟩ | exact⟨j.c3,j.c4⟩) (first|(go_at_call 187;(with_reducible refine P.mono ?_);clear P;rintro e L⟨Q,R,rfl,F,z,c⟩;have c:=aC (d q) c;have f:=n.1.later c;have A:=aU b a u _ _ _ l Q I R B (by have:=aZ z;rw[bY Y,T.len]at this;split at this <;> omega) L (zx hB c.size) f (n.2.1.later c) F)|(go_at_call 203;(with_reducible refine A.mono ?_);clear A;rintro e x2⟨S,U,rfl,G,H,m⟩;have m:=aC c m;have j:=n.1.later m))
    go_wp2_with fail;go_ret;exact⟨S,U,rfl,G,by rw[H,z,T.az,jA (fun p V=>by have:=N p V;show key p.1<key k;omega),bn,zu (by omega),zw h2],m⟩
   ·have he:key a=key k:=(by omega);have s:cy (key k) (key a)=0:=cE.2 he.symm;rw[s]at x;go_enter func187,ntmps187;go_upto_region 8 with ((with_reducible refine x.mono ?_);rintro e L⟨rfl,q,rfl⟩);have i:=n.1.later (aF W q);have f:=(fun o=>(n.1.later (d q)).later (aD (W.drewN (q+1)) o));have j:=(fun o=>n.1.later (aD W o));have E:=fun o=>(n.1.later (aF W q)).later (aD (W.drewN q) o)
    go_region_held3 (fun w=>w.cell? ⟨b,0,none⟩=some (.string (a).1)/\w.cell? ⟨b,2,none⟩=some (.int .i64 ((l.size+1+r.size:Nat):Int))/\w.cell? ⟨b,3,none⟩=some (.pointer I)/\w.cell? ⟨b,4,none⟩=some (.pointer J)) (first|exact⟨i.c0,i.c2,i.c3,i.c4⟩ | exact⟨(f _).c0,(f _).c2,(f _).c3,(f _).c4⟩ | exact⟨(j _).c0,(j _).c2,(j _).c3,(j _).c4⟩ | exact⟨(E _).c0,(E _).c2,(E _).c3,(E _).c4⟩) (fail)
    go_wp2_with fail;go_ret
    exact⟨.nd a v l r,some ⟨W.heap.size,0,none⟩,rfl,gW (W.drewN (q+1)) B hB a v l r _ (by omega) I J (n.2.1.drewN (q+1)) (n.2.2.drewN (q+1)),by
     show l.az++(a,v)::r.az=bn key k v (l.az++(a,u)::r.az);rw[jA (fun p V=>by have:=N p V;show key p.1<key k;omega),yN he],aC (d q) (aD (W.drewN (q+1)) _)⟩
variable{M:Nat}
theorem fJ{D:Nat}{W0:World}{cv:Value}{key:K M->Int}(B:Nat)(hDB:D<=B)(k:K M):∀(t:T (K M) Int) (p:Option Addr) (W:World),(t=.nil∨Cmp D W0 cv key)->Srt key t.az->t.size<=1000000->B<=W.heap.size->Below D W0 W->Tr W B t p ->
   Calls prog 189 #[.pointer p,cv,.string (k).1] W (iy W B (gg key k t.az))
 | .nil,p,W,_,_,_,_,_,h=>by
  obtain rfl:p=none:=h;go_enter func189,ntmps189;go_wp2_with fail;go_ret;exact⟨.nil,none,rfl,rfl,rfl,.refl _ _⟩
 | .nd a u l r,p,W,hcc,hso,hs,hB,hD,h=>by
  obtain⟨b,H,I,rfl,hb,hh,hl,hr⟩:=h;have hn:=bO hh;obtain⟨sl,sr,J,S⟩:=hso.split;have a1:l.size+1+r.size<=1000000:=hs;have U:=hcc.resolve_left (fun e=>by cases e);obtain⟨g,lb,rfl,a0,N⟩:=id U;have x:=N W k a hD;have j:=aa (ab hn (ab hl hr));obtain⟨c0,c1,c2,c3,c4⟩:=hn;have HC:=aa (ab c0 (ab c1 (ab c2 (ab c3 c4))));have d:=(fun q=>aF W (q+1));by_cases h1:key k<key a
  ·have m:cy (key k) (key a)<0:=fF.2 h1;generalize cy (key k) (key a)=o at x m;go_enter func189,ntmps189;go_upto_region 5 with ((with_reducible refine x.mono ?_);rintro e E⟨rfl,q,rfl⟩);have O:=fJ B hDB k l H (W.drewN (q+1)) (.inr U) sl (by omega) hB (hD.trans ((d q).mono (zx hDB hB))) (j.2.1.drewN (q+1));have n:=j.1.later (aF W q);have s:=j.1.later (d q)
   go_region_held3 (fun w=>w.cell? ⟨b,3,none⟩=some (.pointer H)/\w.cell? ⟨b,4,none⟩=some (.pointer I)) (first|exact⟨n.c3,n.c4⟩ | exact⟨s.c3,s.c4⟩ | exact⟨f.c3,f.c4⟩ | exact⟨y.c3,y.c4⟩) (first|(go_at_call 189;(with_reducible refine O.mono ?_);clear O;rintro e E⟨P,Q,rfl,z,v,c⟩;have c:=aC (d q) c;have f:=j.1.later c;have A:=aU b a u _ _ _ P r Q I B (by have:=aZ v;have V:=eB (key:=key) (k:=k) (L:=l.az);rw[T.len]at V;omega) E (zx hB c.size) f z (j.2.2.later c))|(go_at_call 203;(with_reducible refine A.mono ?_);clear A;rintro e x2⟨X,Y,rfl,F,G,i⟩;have i:=aC c i;have y:=j.1.later i))
   go_wp2_with fail;go_ret;exact⟨X,Y,rfl,F,by rw[G,v,T.az,yO h1 S],i⟩
  ·by_cases h2:key a<key k
   ·have m:0<cy (key k) (key a):=fG.2 h2;generalize cy (key k) (key a)=o at x m;go_enter func189,ntmps189;go_upto_region 7 with ((with_reducible refine x.mono ?_);rintro e E⟨rfl,q,rfl⟩);have O:=fJ B hDB k r I (W.drewN (q+1)) (.inr U) sr (by omega) hB (hD.trans ((d q).mono (zx hDB hB))) (j.2.2.drewN (q+1));have n:=j.1.later (aF W q);have s:=j.1.later (d q)
    go_region_held3 (fun w=>w.cell? ⟨b,3,none⟩=some (.pointer H)/\w.cell? ⟨b,4,none⟩=some (.pointer I)) (first|exact⟨n.c3,n.c4⟩ | exact⟨s.c3,s.c4⟩ | exact⟨f.c3,f.c4⟩ | exact⟨y.c3,y.c4⟩) (first|(go_at_call 189;(with_reducible refine O.mono ?_);clear O;rintro e E⟨P,Q,rfl,z,v,c⟩;have c:=aC (d q) c;have f:=j.1.later c;have A:=aU b a u _ _ _ l P H Q B (by have:=aZ v;have V:=eB (key:=key) (k:=k) (L:=r.az);rw[T.len]at V;omega) E (zx hB c.size) f (j.2.1.later c) z)|(go_at_call 203;(with_reducible refine A.mono ?_);clear A;rintro e x2⟨X,Y,rfl,F,G,i⟩;have i:=aC c i;have y:=j.1.later i))
    go_wp2_with fail;go_ret;exact⟨X,Y,rfl,F,by rw[G,v,T.az,qP (fun p Z=>by have:=J p Z;show key p.1<key k;omega),gg,zu (by omega)],i⟩
   ·have he:key a=key k:=(by omega);have m:cy (key k) (key a)=0:=cE.2 he.symm;rw[m]at x;go_enter func189,ntmps189;go_upto_region 8 with ((with_reducible refine x.mono ?_);rintro e E⟨rfl,q,rfl⟩);have R:=Ff B l r H I (by omega) (W.drewN (q+1)) hB (j.2.1.drewN (q+1)) (j.2.2.drewN (q+1));have n:=j.1.later (aF W q);have s:=j.1.later (d q)
    go_region_held3 (fun w=>w.cell? ⟨b,3,none⟩=some (.pointer H)/\w.cell? ⟨b,4,none⟩=some (.pointer I)) (first|exact⟨n.c3,n.c4⟩ | exact⟨s.c3,s.c4⟩ | exact⟨f.c3,f.c4⟩) (first|(go_at_call 204;(with_reducible refine R.mono ?_);clear R;rintro e E⟨P,Q,rfl,z,v,c⟩;have c:=aC (d q) c;have f:=j.1.later c))
    go_wp2_with fail;go_ret;exact⟨P,Q,rfl,z,by rw[v,T.az,qP (fun p Z=>by have:=J p Z;show key p.1<key k;omega),Hb he],c⟩
def Has(M:Nat)(W:World)(B:Nat):Option Int->Option Addr->Prop
 | none,q=>q=none
 | some u,q=>∃(b:Nat) (a:K M) (n:Int) (lp rp:Option Addr),q=some ⟨b,0,none⟩/\B<=b/\Nd W b a u n lp rp
theorem nR{D:Nat}{W0:World}{cv:Value}{key:K M->Int}(B:Nat)(hDB:D<=B)(k:K M)(t:T (K M) Int)(p:Option Addr)(W:World)(hcc:t=.nil∨Cmp D W0 cv key)(hso:Srt key t.az)(hs:t.size<=1000000)(hB:B<=W.heap.size)(hD:Below D W0 W)(h:Tr W B t p):Calls prog 202 #[.pointer p,cv,.string (k).1] W fun e w'=>(∃q,w'=W.drewN q)/\∃q,e=.returned (.tuple #[.pointer q,.int .i64 (below key k t.az:Int)])/\Has M W B (ak key k t.az) q:=by
 go_enter func202,ntmps202;go_wp2_with fail
 go_loopw [0,8] (fun pv iv w=>∃(n:T (K M) Int) (J:Option Addr) (v:Nat),pv=.pointer J/\iv=.int .i64 (v:Int)/\(∃q,w=W.drewN q)/\Tr W B n J/\Srt key n.az/\v+n.size<=1000000/\below key k t.az=v+below key k n.az/\ak key k t.az=ak key k n.az/\(t=.nil->n=.nil)) (fun pv _ w=>Ac w pv)
 case atStart=>exact⟨t,p,0,rfl,rfl,⟨0,rfl⟩,h,hso,by omega,by omega,rfl,id⟩
 obtain⟨n,J,v,rfl,rfl,⟨L,rfl⟩,N,A,O,i,j,hz⟩:=hrel;have E:=gB (N.drewN L);cases n with
 | nil =>
  obtain rfl:J=none:=N;go_wp2_with fail;go_ret2;refine⟨⟨L,rfl⟩,none,by first | (rw[i];simp[T.az,below]) | simp[T.az,below],?_⟩
  first | (rw[j];rfl) | rfl
 | nd a u l r =>
  obtain⟨b,P,V,rfl,hb,X,Q,Y⟩:=N;have F:=bO X;obtain⟨sl,sr,m,R⟩:=A.split;have HN:=aa F;have cl:=(fun q=>ax l P B (W.drewN q) (Q.drewN q));have S:v+(l.size+1+r.size)<=1000000:=O;have G:=(fun q=>gB (Q.drewN q));have H:=(fun q=>gB (Y.drewN q));have x:=T.len l;have y:t≠.nil:=(fun e=>by have:=hz e;cases this);have hc:=hcc.resolve_left y;obtain⟨g,lb,rfl,Z,I⟩:=id hc;have d:=I (W.drewN L) k a (hD.trans ((aF W L).mono (zx hDB hB)));have f:=aa (ab E (ab G H));have s:(T.nd a u l r).size=l.size+1+r.size:=rfl;obtain⟨zl,U⟩:=ae l.size;rw[U]at cl x S;have c0:=(fun q=>(F.later (aF W q)).c0);have c3:=(fun q=>(F.later (aF W q)).c3);have c4:=(fun q=>(F.later (aF W q)).c4);clear F E G H X;by_cases h1:key k<key a
  ·have c:cy (key k) (key a)<0:=fF.2 h1;generalize cy (key k) (key a)=o at d c
   go_wp2_with (first|(go_at_call 186;refine(cl _).mono ?_;rintro e x2⟨rfl,rfl⟩)|((with_reducible refine d.mono ?_);rintro e x1⟨rfl,q,rfl⟩))
   rw[s]at f;exact⟨⟨l,P,v,rfl,rfl,⟨_,rfl⟩,Q,sl,by omega,by rw[i,T.az,nI (by omega)],by rw[j,T.az,qQ h1 R],fun e=>absurd e y⟩,by rw[f.1,f.2.1];omega⟩
  ·by_cases h2:key a<key k
   ·have c:0<cy (key k) (key a):=fG.2 h2;generalize cy (key k) (key a)=o at d c
    go_wp2_with (first|(go_at_call 186;refine(cl _).mono ?_;rintro e x2⟨rfl,rfl⟩)|((with_reducible refine d.mono ?_);rintro e x1⟨rfl,q,rfl⟩))
    rw[s]at f;exact⟨⟨r,V,v+zl+1,rfl,rfl,⟨_,rfl⟩,Y,sr,by omega,by rw[i,T.az,fH (fun p z=>by have:=m p z;show key p.1<key k;omega),below,zw h2,x];omega,by rw[j,T.az,jB (fun p z=>by have:=m p z;show key p.1<key k;omega),ak,zu (by omega)],fun e=>absurd e y⟩,by rw[f.1,f.2.2];omega⟩
   ·have he:key a=key k:=(by omega);have c:cy (key k) (key a)=0:=cE.2 he.symm;rw[c]at d
    go_wp2_with (first|(go_at_call 186;refine(cl _).mono ?_;rintro e x2⟨rfl,rfl⟩)|((with_reducible refine d.mono ?_);rintro e x1⟨rfl,q,rfl⟩))
    go_ret2;refine⟨⟨_,rfl⟩,some ⟨b,0,none⟩,?_,?_⟩
    ·rw[i,T.az,fH (fun p z=>by have:=m p z;show key p.1<key k;omega),below,zu (by omega),x];rfl
    ·rw[j,T.az,jB (fun p z=>by have:=m p z;show key p.1<key k;omega),yP he];exact⟨b,a,_,P,V,rfl,hb,HN.out⟩
end Go.Proofs.YtkchgbjoeggdbaaGreat.Co.S
namespace Go.Proofs.YtkchgbjoeggdbaaGreat.Ix
open Go.Proofs.Tryz
open Go Go.RowKit Go.Proofs Go.Proofs.YtkchgbjoeggdbaaGreat Go.Proofs.YtkchgbjoeggdbaaGreat.Co Go.Proofs.YtkchgbjoeggdbaaGreat.Co.S
variable{M:Nat}
def BC(W:World)(v:Value):Nat:=match v with
 | .pointer (some a)=>(match W.cell? ⟨a.block,4,none⟩with | some (.int _ n)=>n.toNat | _=>0)
 | _=>0
theorem xF{W:World}{B:Nat->Prop}{t:T (VX M) SV}{p:Option Addr}(h:Tr W B t p):BC W (.pointer p)=t.size:=by
 cases t with
 | nil=>obtain rfl:p=none:=h;rfl
 | nd k v l r =>
  obtain⟨b,d,e,rfl,_,a,_,_⟩:=h;have c:=(bO a).c2;unfold BC;simp only[c];show((l.size+1+r.size:Nat):Int).toNat=_;simp[T.size];omega
def Has(M:Nat)(W:World)(B:Nat->Prop):Option SV->Option Addr->Prop
 | none,q=>q=none
 | some u,q=>∃(b:Nat) (a:VX M) (n:Int) (lp rp:Option Addr),q=some ⟨b,0,none⟩/\B b/\Nd W b a u n lp rp
theorem nR{W0:World}{cv:Value}{key:VX M->Int}(B:Nat->Prop)(k:VX M)(t:T (VX M) SV)(p:Option Addr)(W:World)(hcc:t=.nil∨Cmp W0 cv key)(hso:Srt key t.az)(hs:t.size<=1000000)(hD:Below 0 W0 W)(h:Tr W B t p):Calls prog 87 #[.pointer p,cv,.agg #[.int .i64 (k).1.1,.int .i64 (k).1.2.1,.string (k).1.2.2]] W fun e w'=>Below W.heap.size W w'/\∃q,e=.returned (.tuple #[.pointer q,.int .i64 (below key k t.az:Int)])/\Has M W B (ak key k t.az) q:=by
 have J:=aD W (.cells #[.int .i64 k.1.1,.int .i64 k.1.2.1,.string k.1.2.2] 32);have R:=z7 W (.cells #[.int .i64 k.1.1,.int .i64 k.1.2.1,.string k.1.2.2] 32);obtain⟨m,L⟩:=ae (W.alloc (.cells #[.int .i64 k.1.1,.int .i64 k.1.2.1,.string k.1.2.2] 32));obtain⟨X,hX⟩:=ae W.heap.size;rw[L]at J R;rw[hX]at R;have xl:=aB R
 have HK:Hid (∀y,Below m.heap.size m y->y.cell? ⟨X,0,none⟩=some (.int .i64 k.1.1)/\y.cell? ⟨X,1,none⟩=some (.int .i64 k.1.2.1)/\y.cell? ⟨X,2,none⟩=some (.string k.1.2.2)):=aa (fun y i=>by
  have k2:=(i.block X xl).trans R;exact⟨aA k2 0,aA k2 1,aA k2 2⟩)
 have v:=aa (ab L (ab hX (ab J (ab h hD))));clear L hX J h hD R;go_enter func87,ntmps87;go_upto_region 1 with fail;rw[v.1,v.2.1];go_wp2_with fail
 go_loopw [0,8] (fun pv iv w=>∃(H:T (VX M) SV) (p':Option Addr) (N:Nat),pv=.pointer p'/\iv=.int .i64 (N:Int)/\Below m.heap.size m w/\Tr W B H p'/\Srt key H.az/\N+H.size<=1000000/\below key k t.az=N+below key k H.az/\ak key k t.az=ak key k H.az/\(t=.nil->H=.nil)) (fun pv _ w=>BC w pv)
 case atStart=>exact⟨t,p,0,rfl,rfl,zg _ _,v.2.2.2.1,hso,by omega,by omega,rfl,id⟩
 obtain⟨H,p',N,rfl,rfl,n,ht,S,a0,z,A,hz⟩:=hrel;have U:=xF (ht.later (aC v.2.2.1 n));cases H with
 | nil =>
  obtain rfl:p'=none:=ht;have HB:=aa (aC v.2.2.1 n);go_wp2_with fail;go_ret2;refine⟨HB.out,none,by first | (rw[z];simp[T.az,below]) | simp[T.az,below],?_⟩
  first | (rw[A];rfl) | rfl
 | nd a u l r =>
  obtain⟨b,lp,rp,rfl,hb,hh,hl,hr⟩:=ht;have hn:=bO hh;obtain⟨sl,sr,E,a1⟩:=S.split;have F:=aa (ab hn (fun(y:World) (i:Below m.heap.size m y)=>hn.later (aC v.2.2.1 i)));have cl:=(fun y(i:Below m.heap.size m y)=>ax l lp B y (hl.later (aC v.2.2.1 i)));have a2:N+(l.size+1+r.size)<=1000000:=a0;have V:=(fun y(i:Below m.heap.size m y)=>xF (hl.later (aC v.2.2.1 i)));have Y:=(fun y(i:Below m.heap.size m y)=>xF (hr.later (aC v.2.2.1 i)));have O:=T.len l;have P:t≠.nil:=(fun e=>by have:=hz e;cases this);have hc:=hcc.resolve_left P;obtain⟨g,lb,rfl,a6,Z⟩:=id hc;have a3:Below wr.heap.size wr wr.drew:=(zg _ _).drew;have j:=aC n a3;have d:=Z wr.drew k a (v.2.2.2.2.trans ((aC v.2.2.1 j).mono (zj _)));have s:=aa (ab U (ab V Y));have I:(T.nd a u l r).size=l.size+1+r.size:=rfl;obtain⟨zl,a4⟩:=ae l.size;rw[a4]at cl O a2;have G:Hid (∀y,Below m.heap.size m y->y.cell? ⟨X,0,none⟩=some (.int .i64 k.1.1)/\y.cell? ⟨X,1,none⟩=some (.int .i64 k.1.2.1)/\y.cell? ⟨X,2,none⟩=some (.string k.1.2.2)/\y.cell? ⟨b,0,none⟩=some (.int .i64 a.1.1)/\y.cell? ⟨b,1,none⟩=some (.int .i64 a.1.2.1)/\y.cell? ⟨b,2,none⟩=some (.string a.1.2.2)):=aa (fun y i=>⟨(HK.out y i).1,(HK.out y i).2.1,(HK.out y i).2.2,(F.2 y i).c0,(F.2 y i).d1,(F.2 y i).d2⟩);clear hn U V Y hh;by_cases h1:key k<key a
  ·have f:cy (key k) (key a)<0:=fF.2 h1;generalize cy (key k) (key a)=o at d f;go_upto_region 3 with fail
   go_region_held3 (fun w=>w.cell? ⟨X,0,none⟩=some (.int .i64 k.1.1)/\w.cell? ⟨X,1,none⟩=some (.int .i64 k.1.2.1)/\w.cell? ⟨X,2,none⟩=some (.string k.1.2.2)/\w.cell? ⟨b,0,none⟩=some (.int .i64 a.1.1)/\w.cell? ⟨b,1,none⟩=some (.int .i64 a.1.2.1)/\w.cell? ⟨b,2,none⟩=some (.string a.1.2.2)) (first|exact G.out _ n|exact G.out _ j|exact G.out _ c) (first|((with_reducible refine d.mono ?_);rintro e xc⟨rfl,x⟩;have c:=aC j x;clear d))
   have c3:=(F.2 _ c).c3;have c4:=(F.2 _ c).c4;go_wp2_with (go_at_call 51;refine(cl _ c).mono ?_;rintro e x2⟨rfl,rfl⟩);rw[I]at s;exact⟨⟨l,lp,N,rfl,rfl,c,hl,sl,by omega,by rw[z,T.az,nI (by omega)],by rw[A,T.az,qQ h1 a1],fun e=>absurd e P⟩,by rw[s.1,s.2.1 _ c];omega⟩
  ·by_cases h2:key a<key k
   ·have f:0<cy (key k) (key a):=fG.2 h2;generalize cy (key k) (key a)=o at d f;go_upto_region 3 with fail
    go_region_held3 (fun w=>w.cell? ⟨X,0,none⟩=some (.int .i64 k.1.1)/\w.cell? ⟨X,1,none⟩=some (.int .i64 k.1.2.1)/\w.cell? ⟨X,2,none⟩=some (.string k.1.2.2)/\w.cell? ⟨b,0,none⟩=some (.int .i64 a.1.1)/\w.cell? ⟨b,1,none⟩=some (.int .i64 a.1.2.1)/\w.cell? ⟨b,2,none⟩=some (.string a.1.2.2)) (first|exact G.out _ n|exact G.out _ j|exact G.out _ c) (first|((with_reducible refine d.mono ?_);rintro e xc⟨rfl,x⟩;have c:=aC j x;clear d))
    have c3:=(F.2 _ c).c3;have c4:=(F.2 _ c).c4;go_wp2_with (go_at_call 51;refine(cl _ c).mono ?_;rintro e x2⟨rfl,rfl⟩);rw[I]at s;exact⟨⟨r,rp,N+zl+1,rfl,rfl,c,hr,sr,by omega,by rw[z,T.az,fH (fun p Q=>by have:=E p Q;show key p.1<key k;omega),below,zw h2,O];omega,by rw[A,T.az,jB (fun p Q=>by have:=E p Q;show key p.1<key k;omega),ak,zu (by omega)],fun e=>absurd e P⟩,by rw[s.1,s.2.2 _ c];omega⟩
   ·have he:key a=key k:=(by omega);have f:cy (key k) (key a)=0:=cE.2 he.symm;rw[f]at d;go_upto_region 3 with fail
    go_region_held3 (fun w=>w.cell? ⟨X,0,none⟩=some (.int .i64 k.1.1)/\w.cell? ⟨X,1,none⟩=some (.int .i64 k.1.2.1)/\w.cell? ⟨X,2,none⟩=some (.string k.1.2.2)/\w.cell? ⟨b,0,none⟩=some (.int .i64 a.1.1)/\w.cell? ⟨b,1,none⟩=some (.int .i64 a.1.2.1)/\w.cell? ⟨b,2,none⟩=some (.string a.1.2.2)) (first|exact G.out _ n|exact G.out _ j|exact G.out _ c) (first|((with_reducible refine d.mono ?_);rintro e xc⟨rfl,x⟩;have c:=aC j x;clear d))
    have c3:=(F.2 _ c).c3;have a5:=aa (aC v.2.2.1 c);go_wp2_with (go_at_call 51;refine(cl _ c).mono ?_;rintro e x2⟨rfl,rfl⟩);go_ret2;refine⟨a5.out,some ⟨b,0,none⟩,?_,?_⟩
    ·rw[z,T.az,fH (fun p Q=>by have:=E p Q;show key p.1<key k;omega),below,zu (by omega),O];rfl
    ·rw[A,T.az,jB (fun p Q=>by have:=E p Q;show key p.1<key k;omega),yP he];exact⟨b,a,_,lp,rp,rfl,hb,F.1⟩
