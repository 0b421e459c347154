import Derived.Test.YtkchgbjoeggdbaaGreatZn35
import Derived.Test.YtkchgbjoeggdbaaGreatZn39
set_option maxHeartbeats 8000000
set_option maxRecDepth 100000
namespace Go.Proofs.YtkchgbjoeggdbaaGreat.Ix
open Go.Proofs.Tryz
open Go Go.RowKit Go.Proofs Go.Proofs.YtkchgbjoeggdbaaGreat Go.Proofs.YtkchgbjoeggdbaaGreat.Co Go.Proofs.YtkchgbjoeggdbaaGreat.Co.S
abbrev ux(M:Nat)(x:T3):Prop:=(-9223372036854775808<=x.1/\x.1<=9223372036854775807)/\(-9223372036854775808<=x.2.1/\x.2.1<=9223372036854775807)/\x.2.2.size<=M
theorem Dc(M:Nat):ux M z3:=⟨by decide,by decide,zj _⟩
def Af{M:Nat}(x:T3)(h:ux M x):VX M:=⟨x,h⟩
def pw(M:Nat)(x:T3):VX M:=if h:ux M x then Af x h else Af z3 (Dc M)
theorem Ec{M:Nat}{x:T3}(h:ux M x):(pw M x).1=x:=by
 unfold pw;rw[dif_pos h];rfl
def ir(M:Nat)(f:Int->T3×Bool)(A:List Int):List (Int×VX M):=(A.filter fun i=>(f i).2).map fun i=>(i,pw M (f i).1)
section
variable{M:Nat}{f:Int->T3×Bool}{A:List Int}
theorem EI{k:Nat}(hk:k<A.length)(h:(f A[k]).2=true):ir M f (A.take (k+1))=ir M f (A.take k)++[(A[k],pw M (f A[k]).1)]:=by
 unfold ir;rw[yi hk,List.filter_append,vw];simp[h]
theorem Fd{k:Nat}(hk:k<A.length)(h:(f A[k]).2=false):ir M f (A.take (k+1))=ir M f (A.take k):=by
 unfold ir;rw[yi hk,List.filter_append,vw];simp[h]
theorem pA:(ir M f A).length<=A.length:=by
 unfold ir;rw[yd];exact List.length_filter_le _ _
theorem yR(rs:List (Int×VX M)):∀g∈qw rs,g.2.length<=rs.length:=by
 intro g b;have c:=dN (GY rs) b;have a:=(Im rs g.1).1;rw[c]at a;have d:g.2=mj rs g.1:=a;rw[d];unfold mj;rw[yd];exact List.length_filter_le _ _
theorem yS{κ β:Type}{key:κ->Int}{k:κ}{v:β}:∀{L:List (κ×β)},(bn key k v L).length<=L.length+1
 | []=>by simp[bn]
 | (a,u)::r=>by
  rw[bn];by_cases b:key k<key a
  ·rw[zw b];simp
  ·rw[zu b];by_cases c:key a<key k
   ·rw[zw c,xa,xa]
    have:=yS (key:=key) (k:=k) (v:=v) (L:=r)
    omega
   ·rw[zu c];simp
end
section
variable{M:Nat}{W W':World}{Q:Nat->Prop}
def Bl(W W':World):Prop:=∀(b:Nat) (cur:Array Value) (e:TypeId),e=118∨e=90->W.heap[b]?=some (Obj.cells cur e)->W'.heap[b]?=some (Obj.cells cur e)
theorem Tr.kc(hk:Bl W W'):∀{t:Co.T (VX M) SV} {p:Option Addr},Tr W Q t p->Tr W' Q t p
 | .nil,_,h=>h
 | .nd _ _ _ _,_,⟨b,lp,rp,h1,h2,h3,h4,h5⟩=>⟨b,lp,rp,h1,h2,hk _ _ _ (.inl rfl) h3,Tr.kc hk h4,Tr.kc hk h5⟩
theorem Mp.kc{W0:World}{cv:Value}{key:VX M->Int}{mb:Nat}{L:List (VX M×SV)}(h:Mp Q W0 cv key mb L W)(hk:Bl W W')(hb:Below 0 W W'):Mp Q W0 cv key mb L W':=by
 obtain⟨cs,ty,b,c⟩:=h.ty;have a:W'.heap[mb]?=W.heap[mb]?:=(hk _ _ _ (.inr c) b).trans b.symm;obtain⟨t,p,r1,d,e⟩:=h.rt;exact⟨h.dm,(ze (w:=W) a).trans h.c0,⟨t,p,(ze (w:=W) a).trans r1,d.kc hk,e⟩,fun j=>(wq (w:=W) a).trans (h.fz j),h.srt,h.bel.trans hb,h.ty.of a⟩
theorem Bl.grown{o:Option Nat}(hg:W.grownBy W' o)(ho:∀q,o=some q->∃a,W.heap[q]?=some (.cells a 3)):Bl W W':=by
 intro b a e d c;refine(hg.block b (aB c) (fun f=>?_)).trans c;obtain⟨c2,g⟩:=ho b f.symm;rw[g]at c;cases c;rcases d with h|h <;> cases h
theorem qR{o:Option Nat}(hg:W.grownBy W' o):Below 0 W W':=⟨hg.os,hg.tape,hg.output,hg.size,fun b a=>absurd a (yh b)⟩
end
theorem Ro.base{w:World}{a b:Nat}{v:Value}{xs:List Int}(h:Ro w b v xs)(hab:a<=b):Ro w a v xs:=by
 refine⟨h.1,?_⟩;rcases h.2 with c|⟨g,d,e,f,c,i⟩
 ·exact .inl c
 exact .inr ⟨g,d,e,f,zx hab c,i⟩
theorem rh.base{M a b:Nat}{w:World}{L:List (VX M×SV)}{G:List (VX M×List Int)}(h:rh b w L G)(hab:a<=b):rh a w L G:=
 ⟨h.keys,fun v s c=>by
  obtain⟨g,d,e⟩:=h.row v s c;exact⟨g,d,Ro.base e hab⟩,h.apart⟩
theorem FC(y:World)(base:Nat){s:SV}{xs:List Int}(hr:Ro y base (jc s) xs){g:Nat}{id:Int}(hg:y.heap[g]?=some (.cells #[.int .i64 id] 3))(hn:xs.length+1<=1000000)(hb:base<=y.heap.size):∃(a:SV) (w':World),(Builtin.append_ #[40,40] 40 #[jc s,.slice (some ⟨g,0,none⟩) 1 1]).run prog y=.ok (jc a) w'/\Ro w' base (jc a) (xs++[id])/\y.grownBy w' (jc s).ownBlock/\∀q,(jc a).ownBlock=some q->(jc s).ownBlock=some q∨y.heap.size<=q:=by
 obtain⟨i0,b,c,d,e⟩:=info_parts BE
 obtain⟨k,f,w',l,m,n,o⟩:=aS (P:=prog) y base 40 40 3 i0 _ 1 8 underlying40 b c d e rfl (by decide) hr ⟨g,0,none⟩ 1 1 [.int .i64 id] (by simp)
  (fun j u h=>by
   cases j with
   | zero=>simp at h;subst h;exact aA hg 0
   | succ j=>simp at h) (by
   intro u i;simp at i;subst i;rfl) (by decide) (by unfold maxLen;omega) (by omega) hb
 refine⟨(some ⟨k,0,none⟩,xs.length+1,f),w',l,?_,n,fun q p=>?_⟩
 ·unfold Ro;rw[vw,y6];exact m
 cases p;exact o
structure ro (M:Nat) (Wx:World) (m0 B x d mb:Nat) (tb:ByteArray) (pv:Value) (L:List (VX M×SV)) (G:List (VX M×List Int)) (S:Nat->Prop) (w:World):Prop where
 mp:∃W0:World,Mp (fun q=>mb<q) W0 Bw aw mb L w/\rh (mb+1) w L G/\∀v s q,ak aw v L=some s->(jc s).ownBlock=some q->S q
 sm:S mb
 cx:w.heap[x]?=some (.cells #[.string tb,pv,.pointer (some ⟨mb,0,none⟩)] 45)
 c2:w.heap[B]?=some (.cells #[.pointer (some ⟨x,0,none⟩)] 22)
 c3:w.heap[B+1]?=some (.cells #[.pointer (some ⟨d,0,none⟩)] 24)
 le:m0<=mb
 old:∀b,b<m0->S b∨∃cur e m,w.heap[b]?=some (.cells cur e m)
 bel:Below m0 Wx w
section
variable{M:Nat}{Wx A' B' w1 w2:World}{m0 B x d mb:Nat}{tb:ByteArray}{pv:Value}{L:List (VX M×SV)}{G:List (VX M×List Int)}{S:Nat->Prop}
theorem Ia{W:World}(hb:∀b,S b->B'.heap[b]?=A'.heap[b]?)(hkc:∀(b:Nat) (a:Array Value) (e:TypeId) (m:Nat×Nat),A'.heap[b]?=some (Obj.cells a e m)->B'.heap[b]?=some (Obj.cells a e m))(hsz:A'.heap.size<=B'.heap.size)(hos:B'.os=A'.os/\B'.tape=A'.tape/\B'.output=A'.output)(hold:∀b,b<m0->S b∨∃a e m,A'.heap[b]?=some (.cells a e m))(hbel:Below m0 W A'):(∀b,b<m0->S b∨∃a e m,B'.heap[b]?=some (.cells a e m))/\Below m0 W B':=by
 refine⟨fun b c=>(hold b c).imp id (fun⟨a,e,m,he⟩=>⟨a,e,m,hkc b a e m he⟩),hbel.trans ⟨hos.1,hos.2.1,hos.2.2,hsz,fun b c=>?_⟩⟩;rcases hold b c with d|⟨a,e,m,d⟩
 ·exact hb b d
 rw[hkc b a e m d,d]
theorem ro.loc(h:ro M Wx m0 B x d mb tb pv L G S A')(hsz:A'.heap.size<=B'.heap.size)(c:∀b,S b->B'.heap[b]?=A'.heap[b]?)(hkc:∀(b:Nat) (a:Array Value) (e:TypeId) (m:Nat×Nat),A'.heap[b]?=some (Obj.cells a e m)->B'.heap[b]?=some (Obj.cells a e m))(hos:B'.os=A'.os/\B'.tape=A'.tape/\B'.output=A'.output):ro M Wx m0 B x d mb tb pv L G S B':=by
 obtain⟨g,i,j,f⟩:=h.mp;obtain⟨k,l⟩:=Ia c hkc hsz hos h.old h.bel;exact⟨⟨g,i.kc (fun b a e _ n=>hkc b a e _ n) ⟨hos.1,hos.2.1,hos.2.2,hsz,fun b c=>absurd c (yh b)⟩,j.of (fun v s q o p=>c q (f v s q o p)),f⟩,h.sm,hkc _ _ _ _ h.cx,hkc _ _ _ _ h.c2,hkc _ _ _ _ h.c3,h.le,k,l⟩
theorem ro.later(h:ro M Wx m0 B x d mb tb pv L G S w1)(hmb:mb<w1.heap.size)(hb:Below w1.heap.size w1 w2):ro M Wx m0 B x d mb tb pv L G S w2:=by
 obtain⟨g,i,j,k⟩:=h.mp;refine⟨⟨g,i.later hb,j.later hb,k⟩,h.sm,aE hb h.cx,aE hb h.c2,aE hb h.c3,h.le,fun b a=>?_,h.bel.trans (hb.mono (by have:=h.le;omega))⟩;rcases h.old b a with c|⟨f,e,m,c⟩
 ·exact .inl c
 exact .inr ⟨f,e,m,aE hb c⟩
theorem ro.grow(h:ro M Wx m0 B x d mb tb pv L G S w1){S2:Nat->Prop}(hs:∀b,S b->S2 b):ro M Wx m0 B x d mb tb pv L G S2 w1:=by
 obtain⟨e,f,g,i⟩:=h.mp;exact⟨⟨e,f,g,fun v s q a b=>hs q (i v s q a b)⟩,hs _ h.sm,h.cx,h.c2,h.c3,h.le,fun b c=>(h.old b c).imp (hs b) id,h.bel⟩
theorem ro.quiet(h:ro M Wx m0 B x d mb tb pv L G S w1)(hmb:mb<w1.heap.size)(hin:fi S w1)(a:Below w1.heap.size w1 w2):∃c,Grows S c w1/\fi c w2/\Chg S w1 w2/\ro M Wx m0 B x d mb tb pv L G c w2:=by
 have e:=a.size;refine⟨fun b=>S b∨(w1.heap.size<=b/\b<w2.heap.size),fun b a=>a.imp id (fun h=>h.1),fun b a=>?_,(Chg.of_below (S:=fun _=>False) a).mono (fun _ _ h=>h.elim),(h.later hmb a).grow (fun _ h=>.inl h)⟩;rcases a with a|a
 ·have:=hin b a;omega
 exact a.2
theorem ro.get(h:ro M Wx m0 B x d mb tb pv L G S w1)(hl:L.length<=100000)(v:VX M){s:SV}(hs:(ak aw v L).getD (none,0,0)=s):Calls prog 18 #[.pointer (some ⟨mb,0,none⟩),AH v] w1 (fun e w'=>e=.returned (.tuple #[jc s,.bool (ak aw v L).isSome])/\Below w1.heap.size w1 w'):=by
 subst hs;obtain⟨a,b,_,_⟩:=h.mp;refine(kQ mb L (.inr (BX a)) v w1 (zx hl (by decide)) b).mono ?_;rintro e w'⟨rfl,c⟩;refine⟨?_,c⟩;cases ak aw v L <;> rfl
theorem tT{o:Option Nat}(hg:w1.grownBy w2 o)(ho:∀q,o=some q->∃a,w1.heap[q]?=some (.cells a 3)){b:Nat}{a:Array Value}{e:TypeId}(hb:w1.heap[b]?=some (.cells a e))(he:e≠3):w2.heap[b]?=some (.cells a e):=by
 refine(hg.block b (aB hb) (fun c=>?_)).trans hb;obtain⟨c2,d⟩:=ho b c.symm;rw[d]at hb;cases hb;exact he rfl
theorem ro.app(h:ro M Wx m0 B x d mb tb pv L G S w1)(hmb:mb<w1.heap.size)(hin:fi S w1)(hl:L.length<=100000)(v:VX M){s:SV}(f:(ak aw v L).getD (none,0,0)=s)(id:Int)(hf:((ak aw v G).getD []).length<=100000){g0:Nat}(hg0:w1.heap[g0]?=some (.cells #[.int .i64 id] 3)):∃(E:SV) (w':World),(Builtin.append_ #[40,40] 40 #[jc s,.slice (some ⟨g0,0,none⟩) 1 1]).run prog w1=.ok (jc E) w'/\(∀(b:Nat) (a:Array Value) (e:TypeId),e≠3->w1.heap[b]?=some (.cells a e)->w'.heap[b]?=some (.cells a e))/\Calls prog 19 #[.pointer (some ⟨mb,0,none⟩),AH v,jc E] w' fun e w2=>(∃b,e=.returned (.bool b))/\∃N,Grows S N w1/\fi N w2/\Chg S w1 w2/\∃Y,Y.length<=L.length+1/\ro M Wx m0 B x d mb tb pv Y (oa G (id,v)) N w2:=by
 obtain⟨Z,hm,hr,hs⟩:=h.mp;have O:=h.le;have w:=hr.get v;rw[f]at w;obtain⟨E,w',k1,k2,n,k4⟩:=FC w1 (mb+1) w hg0 (by omega) hmb;have y:∀q,(jc s).ownBlock=some q->∃a,w1.heap[q]?=some (.cells a 3):=fun q l=>(ac.block w q l).2
 have k:∀q,(jc s).ownBlock=some q->S q:=fun q l=>by
  cases P:ak aw v L with
  | none=>rw[P]at f;subst f;cases l
  | some t=>rw[P]at f;have f:t=s:=f;subst f;exact hs v t q P l
 have A:∀q,(jc s).ownBlock=some q->mb+1<=q:=(fun q l=>(ac.lt w q l).1);have F:∀(b:Nat) (a:Array Value) (e:TypeId),e≠3->w1.heap[b]?=some (.cells a e)->w'.heap[b]?=some (.cells a e):=(fun b a e Q j=>tT n y j Q);have R:=hm.kc (Bl.grown n y) (qR n);have p:rh (mb+1) w' (bn aw v E L) (oa G (id,v)):=hr.add k2 (by rw[f];exact n) (fun q l=>by rw[f];exact k4 q l);refine⟨E,w',k1,F,(pN (BX Z) mb L v E w' (by omega) (fun b j=>by have:=n.size;omega) R).mono ?_⟩;rintro e w2⟨rfl,U,c⟩;have a0:=n.size;have a1:=c.chg.size
 have V:∀(b:Nat) (a:Array Value) (e:TypeId),e≠90->w1.heap[b]?=some (.cells a e)->b≠mb:=fun b a e Q j e2=>by
  obtain⟨c2,ty,q1,q2⟩:=hm.ty;rw[e2,q1]at j;cases j;exact Q q2
 have i:∀(b:Nat) (a:Array Value) (e:TypeId),e≠3->e≠90->w1.heap[b]?=some (.cells a e)->w2.heap[b]?=some (.cells a e):=fun b a e I h9 j=>by
  have J:=F b a e I j;exact(c.chg.block b (aB J) (V b a e h9 j)).trans J
 have r:∀b,b<w1.heap.size->(jc s).ownBlock≠some b->b≠mb->w2.heap[b]?=w1.heap[b]?:=(fun b o J H=>(c.chg.block b (by omega) H).trans (n.block b o (fun e=>J e.symm)));refine⟨⟨_,rfl⟩,fun b=>S b∨(w1.heap.size<=b/\b<w2.heap.size),fun b j=>j.imp (fun h=>h) (fun h=>h.1),fun b j=>?_,⟨c.chg.os.trans n.os,c.chg.tape.trans n.tape,c.chg.output.trans n.output,by omega,fun b o hn=>r b o (fun e=>hn (k b e)) (fun e=>hn (e▸h.sm))⟩,_,yS,⟨Z,U,p.of (fun u t q z l=>?_),fun u t q z l=>?_⟩,.inl h.sm,i _ _ _ (by decide) (by decide) h.cx,i _ _ _ (by decide) (by decide) h.c2,i _ _ _ (by decide) (by decide) h.c3,O,fun b o=>?_,h.bel.trans ⟨c.chg.os.trans n.os,c.chg.tape.trans n.tape,c.chg.output.trans n.output,by omega,fun b o=>r b (by omega) (fun e=>by have:=A b e;omega) (by omega)⟩⟩
 ·rcases j with j|j
  ·have:=hin b j;omega
  exact j.2
 ·obtain⟨g,_,H⟩:=p.row u t z;have I:=ac.lt H q l;exact c.chg.block q I.2 (fun e=>by have e:q=mb:=e;omega)
 ·obtain⟨g,_,H⟩:=p.row u t z;have I:=ac.lt H q l;rw[dY]at z;by_cases e:aw v=aw u
  ·rw[zw e]at z;cases z;rcases k4 q l with W|W
   ·exact .inl (k q W)
   exact .inr ⟨W,by omega⟩
  rw[zu e]at z;exact .inl (hs u t q z l)
 rcases h.old b o with X|⟨a,e,m,X⟩
 ·exact .inl (.inl X)
 by_cases ho:(jc s).ownBlock=some b
 ·exact .inl (.inl (k b ho))
 exact .inr ⟨a,e,m,(r b (by omega) ho (by omega)).trans X⟩
end
end Go.Proofs.YtkchgbjoeggdbaaGreat.Ix
namespace Go.Proofs.YtkchgbjoeggdbaaGreat.Ix
open Go.Proofs.Tryz
open Go Go.RowKit Go.Proofs Go.Proofs.YtkchgbjoeggdbaaGreat Go.Proofs.YtkchgbjoeggdbaaGreat.Par
structure JU (c:Nat->Value) (wd:World) (i0:Int) (R8:Value->World->Prop) (l:Nat->Bool) (vs:Nat->Value) (w:World):Prop where
 lo:∀j,j<7->l j=true->vs j=c j
 s0:l 7=false->l 8=false->w=wd
 s1:l 7=true->l 8=false->vs 7=.slice (some ⟨wd.heap.size,0,none⟩) 1 1/\w=wd.alloc (.cells #[.int .i64 i0] 3)
 s2:l 8=true->R8 (vs 8) w
section
variable{c:Nat->Value}{wd w w':World}{i0:Int}{R8:Value->World->Prop}{l:Nat->Bool}{vs:Nat->Value}
theorem JU.val(h:JU c wd i0 R8 l vs w)(i:Nat)(hi:i<7):JU c wd i0 R8 (fg l i) (ef vs i (c i)) w:=by
 have d:fg l i 7=l 7:=(by unfold fg;rw[zu (by omega)]);have a:fg l i 8=l 8:=(by unfold fg;rw[zu (by omega)]);have f:ef vs i (c i) 7=vs 7:=(by unfold ef;rw[zu (by omega)]);have g:ef vs i (c i) 8=vs 8:=(by unfold ef;rw[zu (by omega)]);refine⟨fun j k b=>?_,by rw[d,a];exact h.s0,by rw[d,a,f];exact h.s1,by rw[a,g];exact h.s2⟩;unfold ef;unfold fg at b;by_cases e:j=i
 ·rw[zw e,e]
 rw[zu e]at b ⊢;exact h.lo j k b
theorem JU.new(h:JU c wd i0 R8 l vs w)(h7:l 7=false)(h8:l 8=false):JU c wd i0 R8 (fg l 7) (ef vs 7 (.slice (some ⟨w.heap.size,0,none⟩) 1 1)) (w.alloc (.cells #[.int .i64 i0] 3)):=by
 obtain rfl:=h.s0 h7 h8;refine⟨fun j d b=>?_,fun a _=>?_,fun _ _=>⟨rfl,rfl⟩,fun a=>?_⟩
 ·unfold fg at b;unfold ef;rw[zu (by omega)]at b ⊢;exact h.lo j d b
 ·cases a
 have a:l 8=true:=a;rw[h8]at a;cases a
theorem JU.app(h:JU c wd i0 R8 l vs w)(h7:l 7=true){v:Value}(hr:R8 v w'):JU c wd i0 R8 (fg l 8) (ef vs 8 v) w':=by
 refine⟨fun j d b=>?_,fun a=>?_,fun _ a=>?_,fun _=>hr⟩
 ·unfold fg at b;unfold ef;rw[zu (by omega)]at b ⊢;exact h.lo j d b
 ·have a:l 7=false:=a;rw[h7]at a;cases a
 cases a
theorem JU.any(h:JU c wd i0 R8 l vs w){F:World->Prop}(h0:F wd)(h1:F (wd.alloc (.cells #[.int .i64 i0] 3)))(h2:∀v w,R8 v w->F w):F w:=by
 cases a:l 8 with
 | true=>exact h2 _ _ (h.s2 a)
 | false =>
  cases b:l 7 with
  | true=>rw[(h.s1 b a).2];exact h1
  | false=>rw[h.s0 b a];exact h0
theorem JU.start(vs:Nat->Value):JU c wd i0 R8 (fun _=>false) vs wd:=⟨fun _ _ h=>(by cases h),fun _ _=>rfl,fun h=>(by cases h),fun h=>(by cases h)⟩
end
end Go.Proofs.YtkchgbjoeggdbaaGreat.Ix
namespace Go.Proofs.YtkchgbjoeggdbaaGreat.Ix
open Go.Proofs.Tryz
open Go Go.RowKit Go.Shelf Go.Proofs Go.Proofs.YtkchgbjoeggdbaaGreat Go.Proofs.YtkchgbjoeggdbaaGreat.Co
attribute [local go_sem] Oper.semAt_some
attribute [local go_sem] bH aR
variable{M:Nat}
def qh(w:World)(d:Nat)(L:List PT):Prop:=∃st O,Dd w d (pre 4) st O/\st.map (·.2)=L
theorem qh.later{W w:World}{d:Nat}{L:List PT}(h:qh W d L)(hb:Below W.heap.size W w):qh w d L:=by
 obtain⟨a,O,b,c⟩:=h;exact⟨a,O,b.later hb,c⟩
theorem qh.value{w:World}{d:Nat}{L:List PT}(h:qh w d L)(x:ByteArray){id:Int}{v:Value}{p:List ByteArray}(hid:lg id)(hp:Wd w v p):Calls prog 17 #[.pointer (some ⟨d,0,none⟩),.string x,.int .i64 id,v] w fun e w'=>e=.returned (.tuple #[.agg #[.int .i64 ((ay (pre 4) (da L) x id p).1.1),.int .i64 ((ay (pre 4) (da L) x id p).1.2.1),.string ((ay (pre 4) (da L) x id p).1.2.2)],.bool (ay (pre 4) (da L) x id p).2])/\Below w.heap.size w w':=by
 obtain⟨c,O,a,b⟩:=h;rw[<-gS b];exact nB a (cO 4 (by decide)) (bN 4) aM x hid hp
theorem qh.live{w:World}{d:Nat}{L:List PT}(h:qh w d L){j:Nat}(hj:j<4){nm:ByteArray}(hnm:((pre 4)[j]'hj).nm=nm){X:PT}(hX:L[j]?=some X):∃tb,(∀w2,Below w.heap.size w w2->Calls prog 14 #[.pointer (some ⟨d,0,none⟩),.string nm] w2 fun e w'=>e=.returned (.pointer (some ⟨tb,0,none⟩))/\w'=w2)/\(∀w2,Below w.heap.size w w2->Calls prog 15 #[.pointer (some ⟨tb,0,none⟩)] w2 (rq (oi X.2) w2))/\X.2.Pairwise (fun a b=>a.1<b.1)/\∀a∈X.2,lg a.1:=by
 obtain⟨i,O,k,m⟩:=h;have f:j<(pre 4).length:=hj;have c:j<i.length:=by rw[k.len];exact hj
 have e:i[j].2=X:=by
  rw[<-m,xe,z6 c]at hX;exact Option.some.inj hX
 obtain⟨n,hT,_⟩:=k.tab j f c;subst e hnm;refine⟨i[j].1,fun w2 l=>(k.later l).table f (aM _ (z8 _)) c,fun w2 l=>eM (hT.later l),?_,?_⟩
 ·obtain⟨_,_,g⟩:=hT;exact g.srt
 obtain⟨_,_,g⟩:=hT;intro a o;obtain⟨r1,p⟩:=g.rng a o
 have:=g.lim
 unfold lg;omega
end Go.Proofs.YtkchgbjoeggdbaaGreat.Ix
namespace Go.Proofs.YtkchgbjoeggdbaaGreat.Ix
open Go.Proofs.Tryz
open Go Go.RowKit Go.Shelf Go.Proofs Go.Proofs.YtkchgbjoeggdbaaGreat Go.Proofs.YtkchgbjoeggdbaaGreat.Co Go.Proofs.YtkchgbjoeggdbaaGreat.Co.S
attribute [local go_sem] Oper.semAt_some
attribute [local go_sem] bH aR
variable{M:Nat}
theorem GE{y:World}{x i:Nat}{cs:Array Value}{v:Value}(k:y.heap[x]?=some (.cells cs 45)):Tn (fun b=>b=x) y (y.setCell ⟨x,i,none⟩ v):=by
 have a:=dI y x i v
 exact Tn.bt ⟨a.os,a.tape,a.output,a.size,fun q c d=>a.block q c (fun e=>d (by cases e;rfl))⟩ (fun q _ c=>by
  rw[c];exact .inl ⟨_,45,k,rfl⟩)
theorem nK{w:World}{x d:Nat}{tb:ByteArray}{p:List ByteArray}{pv:Value}{q:Option Addr}{L:List PT}(hx:w.heap[x]?=some (.cells #[.string tb,pv,.pointer q] 45))(hp:Wd w pv p)(hdb:∀w',Tn (fun b=>b=x) w w'->qh w' d L){j:Nat}(hj:j<4)(hnm:((pre 4)[j]'hj).nm=tb){X:PT}(hX:L[j]?=some X)(hlen:X.2.length<=1000)(b3:∀a∈X.2,ux M (ay (pre 4) (da L) tb a.1 p).1):Calls prog 4 #[.pointer (some ⟨x,0,none⟩),.pointer (some ⟨d,0,none⟩)] w fun e w'=>e=.returned (.tuple #[])/\tu (M:=M) w' x tb p (qw (ir M (fun i=>ay (pre 4) (da L) tb i p) (X.2.map (·.1))))/\Tn (fun b=>b=x) w w'/\∃q,w'.heap[x]?=some (.cells #[.string tb,pv,.pointer q] 45):=by
 obtain⟨pp,pc,rfl,_,_⟩:=hp.slice;obtain⟨f,hf⟩:∃f:Int->T3×Bool,(fun i=>ay (pre 4) (da L) tb i p)=f:=⟨_,rfl⟩;rw[hf];have b3:∀a∈X.2,ux M (f a.1).1:=(fun a ha=>by rw[<-hf];exact b3 a ha);have a2:=aC (aD w (.cells #[.pointer (some ⟨x,0,none⟩)] 22)) (aD (w.alloc (.cells #[.pointer (some ⟨x,0,none⟩)] 22)) (.cells #[.pointer (some ⟨d,0,none⟩)] 24));have k1:=aE (aD (w.alloc (.cells #[.pointer (some ⟨x,0,none⟩)] 22)) (.cells #[.pointer (some ⟨d,0,none⟩)] 24)) (z7 w (.cells #[.pointer (some ⟨x,0,none⟩)] 22));have k2:=z7 (w.alloc (.cells #[.pointer (some ⟨x,0,none⟩)] 22)) (.cells #[.pointer (some ⟨d,0,none⟩)] 24);obtain⟨w1,f2⟩:=ae ((w.alloc (.cells #[.pointer (some ⟨x,0,none⟩)] 22)).alloc (.cells #[.pointer (some ⟨d,0,none⟩)] 24));obtain⟨B,hB⟩:=ae w.heap.size;simp only[zm]at k2;have g8:w1.heap.size=B+2:=(by rw[<-f2,<-hB];simp);rw[f2]at a2 k1 k2;rw[hB]at k1 k2;have b0:=aE a2 hx;have g9:x<B:=(by rw[<-hB];exact aB hx);have HP:=aa hp;have l6:=aa hdb;have HL:=aa (fun(y:World) (h:qh y d L)=>h.live hj hnm hX);have HV:=aa (ab hlen b3);have HW:=aa (ab f2 (ab hB (ab a2 (ab k1 (ab k2 (ab b0 (ab g8 (ab g9 hx))))))));have y0:=aA k1 0;have l0:=aB k1;clear f2 hB a2 k1 k2 b0 g8 g9 hp hdb hnm hX hlen b3 hx;refine(callsIn_wide (n:=0)).1 ?_;refine callsIn_of_wp_marks func4 rfl trivial ?_ rfl;simp only[ntmps4,List.size_toArray,xa,vc,Nat.reduceAdd,Nat.reduceSub,Array.replicate_succ,Array.replicate_zero,List.push_toArray,List.append_toArray,IU,IV];refine wpIn_wide.2 ?_;go_upto_region 1 with fail;rw[HW.1,HW.2.1];go_upto_region 2 with fail;clear y0 l0;refine Par.ij 2 (fun y=>Below w1.heap.size w1 y) (Par.VL [(.eq (.pointer (some ⟨x,0,none⟩))),(Par.VW.B0 w1.heap.size (fun g=>(.pointer (some ⟨g,0,none⟩))) (.cells #[Bw,.pointer none] 90))]) ?A1 ?hm1 ?hB1 (fun w w' h H=>aC h H) (Par.VL.mono _) ?hA1 (aG w1) ?hop1 ?hT1
 case hm1=>kernel_rfl
 case hB1=>kernel_rfl
 case hA1 =>
  intro vs;simp only[Par.am,Par.ai,Act.put,eh,ez,dz,eo,ew,ey,ed];rfl
 case hop1 =>
  simp only[en,zh,Par.fo,yo];and_intros<;>intro vs w t o
  ·have q1:=aA (aE t HW.2.2.2.1) 0;have Q:=aB (aE t HW.2.2.2.1);clear o;simp only[Par.au];go_simp;all_goals exact⟨rfl,zg _ _⟩
  clear o;simp only[Par.au];go_simp;exact(pM 13 #[] w).mono (fun e i8 h=>⟨_,h.1,⟨⟨w.heap.size,t.size,rfl,h.2.2.2.2▸z7 w _⟩,h.2.2.2.1⟩⟩)
 intro vs w' t E;simp only[ex,ye];have I:=E 0 (by decide);replace I:vs 0=.pointer (some ⟨x,0,none⟩):=I;have d1:=E 1 (by decide);clear E;simp only[I];clear I;obtain⟨wa,rfl⟩:∃y,y=w':=⟨_,rfl⟩;obtain⟨mb,a3,i9,b7⟩:=d1;rw[i9];clear i9;have kx:=aE t HW.2.2.2.2.2.1;have x2:=aA kx 2;have xf:=(fun i=>zq wa x i _ _ kx);have xl:=aB kx;have HA:=aa (ab t (ab a3 (ab b7 kx)));clear t a3 b7 kx;go_upto_region 3 with fail;clear x2 xf xl;obtain⟨t,a3,b7,kx⟩:=HA.out;obtain⟨_,hB,a2,k1,k2,b0,g8,g9,_⟩:=HW.out;have h9:x≠mb:=(by omega);have c1:(wa.setCell ⟨x,2,none⟩ (.pointer (some ⟨mb,0,none⟩))).heap[x]?=some (.cells #[.string tb,.slice pp p.length pc,.pointer (some ⟨mb,0,none⟩)] 45):=y7 wa x 2 _ 45 _ kx;have c4:∀b,b≠x->(wa.setCell ⟨x,2,none⟩ (.pointer (some ⟨mb,0,none⟩))).heap[b]?=wa.heap[b]?:=(fun b H=>y9 wa ⟨x,2,none⟩ b _ H);have c5:=(c4 B (by omega)).trans (aE t k1);have c6:=(c4 (B+1) (by omega)).trans (aE t k2);have b8:=(c4 mb h9.symm).trans b7;have c7:(wa.setCell ⟨x,2,none⟩ (.pointer (some ⟨mb,0,none⟩))).heap.size=wa.heap.size:=(by simp);obtain⟨Wx,a4⟩:=ae (w1.setCell ⟨x,2,none⟩ (.pointer (some ⟨mb,0,none⟩)));have l7:Wx.heap[x]?=some (.cells #[.string tb,.slice pp p.length pc,.pointer (some ⟨mb,0,none⟩)] 45):=(by rw[<-a4];exact y7 w1 x 2 _ 45 _ b0);have c8:Wx.heap.size=w1.heap.size:=by rw[<-a4];simp
 have b1:Below w1.heap.size Wx (wa.setCell ⟨x,2,none⟩ (.pointer (some ⟨mb,0,none⟩))):=by
  refine⟨by rw[<-a4];exact t.os,by rw[<-a4];exact t.tape,by rw[<-a4];exact t.output,by rw[c8,c7];exact t.size,fun b l8=>?_⟩;by_cases e:b=x
  ·subst e;rw[c1,l7]
  rw[c4 b e,<-a4,y9 w1 ⟨x,2,none⟩ b _ e];exact t.block b l8
 have j0:Tn (fun b=>b=x) w Wx:=(by rw[<-a4];exact(Tn.of_below a2).trans (GE b0) (fun _ _ h=>h) (fun _ _ h=>h));have f3:qh Wx d L:=l6.out Wx j0;have j1:Wd Wx (.slice pp p.length pc) p:=(by rw[<-a4];exact(HP.out.later a2).kp (fun b b9 m hh=>(y9 w1 ⟨x,2,none⟩ b _ (fun e=>by rw[e,b0]at hh;cases hh)).trans hh));have m7:=aB b7;rw[<-c8]at b1 a3;generalize wa.setCell ⟨x,2,none⟩ (.pointer (some ⟨mb,0,none⟩))=wb at c1 c5 c6 b8 c7 b1 ⊢;obtain⟨tbl,g1,g2,b4,b5⟩:=HL.out Wx f3;have HX:=aa (ab c1 (ab c5 (ab c6 (ab b8 (ab b1 (ab f3 (ab c8 (ab a3 (ab b4 b5)))))))))
 have HT:Hid (∀y,Below wb.heap.size wb y->Calls prog 14 #[.pointer (some ⟨d,0,none⟩),.string tb] y (fun e w'=>e=.returned (.pointer (some ⟨tbl,0,none⟩))/\w'=y)/\Calls prog 15 #[.pointer (some ⟨tbl,0,none⟩)] y (rq (oi X.2) y)):=aa (fun y hy=>by
  have U:Below Wx.heap.size Wx y:=b1.trans (hy.mono (by rw[c7,c8];exact t.size));exact⟨g1 y U,g2 y U⟩)
 have j2:Hid (∀y,Below Wx.heap.size Wx y->∀i,lg i->Calls prog 17 #[.pointer (some ⟨d,0,none⟩),.string tb,.int .i64 i,.slice pp p.length pc] y fun e w'=>e=.returned (.tuple #[.agg #[.int .i64 ((f i).1.1),.int .i64 ((f i).1.2.1),.string ((f i).1.2.2)],.bool (f i).2])/\Below y.heap.size y w'):=aa (fun y hy i hi=>by
  have U:=(f3.later hy).value tb hi (j1.later hy);rw[show ay (pre 4) (da L) tb i p=f i from congrFun hf i]at U;exact U)
 have HZ:Hid (wb.heap.size=wa.heap.size/\Wx.heap.size<=wb.heap.size):=aa ⟨c7,by rw[c7,c8];exact t.size⟩;clear c4 c5 c6 b8 b1 f3 g1 g2 b4 b5 t a3 b7 kx b0 k1 k2 a2;refine Par.ij 5 (fun y=>Below wb.heap.size wb y) (Par.VL [(.eq (.pointer (some ⟨d,0,none⟩))),(.eq (.pointer (some ⟨x,0,none⟩))),(.eq (.pointer (some ⟨x,0,none⟩))),(.eq (.pointer (some ⟨x,0,none⟩))),(.eq (.string tb))]) ?A2 ?hm2 ?hB2 (fun w w' h H=>aC h H) (Par.VL.mono _) ?hA2 (aG wb) ?hop2 ?hT2
 case hm2=>kernel_rfl
 case hB2=>kernel_rfl
 case hA2 =>
  intro vs;simp only[Par.am,Par.ai,Act.put,eh,ez,dz,eo,ew,ey,ed];rfl
 case hop2 =>
  simp only[en,zh,Par.fo,yo];and_intros<;>intro vs w t o
  ·have q1:=aA (aE t HX.2.2.1) 0;have Q:=aB (aE t HX.2.2.1);clear o;simp only[Par.au];go_simp;all_goals exact⟨rfl,zg _ _⟩
  ·have q1:=aA (aE t HX.2.1) 0;have Q:=aB (aE t HX.2.1);clear o;simp only[Par.au];go_simp;all_goals exact⟨rfl,zg _ _⟩
  ·have d1:=o 1 (by decide) (by kernel_rfl);replace d1:vs 1=.pointer (some ⟨x,0,none⟩):=d1;have Q:=aB (aE t HX.1);clear o;simp only[Par.au,d1];go_simp;all_goals exact⟨rfl,zg _ _⟩
  ·have d2:=o 2 (by decide) (by kernel_rfl);replace d2:vs 2=.pointer (some ⟨x,0,none⟩):=d2;clear o;simp only[Par.au,d2];go_simp;all_goals exact⟨rfl,zg _ _⟩
  have J:=o 3 (by decide) (by kernel_rfl);replace J:vs 3=.pointer (some ⟨x,0,none⟩):=J;have q1:=aA (aE t HX.1) 0;have Q:=aB (aE t HX.1);clear o;simp only[Par.au,J];go_simp;all_goals exact⟨rfl,zg _ _⟩
 intro vs w' t E;simp only[ex,ye];have I:=E 0 (by decide);replace I:vs 0=.pointer (some ⟨d,0,none⟩):=I;have d1:=E 1 (by decide);replace d1:vs 1=.pointer (some ⟨x,0,none⟩):=d1;have d2:=E 2 (by decide);replace d2:vs 2=.pointer (some ⟨x,0,none⟩):=d2;have J:=E 3 (by decide);replace J:vs 3=.pointer (some ⟨x,0,none⟩):=J;have P:=E 4 (by decide);replace P:vs 4=.string tb:=P;clear E;simp only[I,d1,d2,J,P];clear I d1 d2 J P;obtain⟨wc,rfl⟩:∃y,y=w':=⟨_,rfl⟩;obtain⟨j3,j4⟩:=HT.out wc t
 go_wp2_with (first|(go_at_call 14;refine j3.mono ?_;rintro e w5⟨rfl,hw⟩;subst w5;clear j3)|(go_at_call 15;refine j4.mono ?_;rintro e w6⟨pl,nl,cl,rfl,⟨lr,i0,j5,j6⟩,i2⟩;have j7:=eD i0;have i3:=Cell.new w6 (.slice pl nl cl) 29;clear j4)|(go_at_call 16;refine j7.mono ?_;rintro e w7⟨rfl,c9⟩;clear j7))
 obtain⟨c1,c5,c6,b8,b1,_,_,a3,b4,b5⟩:=HX.out;obtain⟨c,hc⟩:=ae w6.heap.size;have hA:=fR j5 j6 b4;obtain⟨xs,f4⟩:∃xs:List Int,X.2.map (·.1)=xs:=⟨_,rfl⟩;have m9:xs.length=X.2.length:=by rw[<-f4,yd]
 have h9:∀i∈xs,lg i/\ux M (f i).1:=by
  intro i hi;rw[<-f4]at hi;obtain⟨a,ha,rfl⟩:=List.mem_map.1 hi;exact⟨b5 a ha,HV.2 a ha⟩
 rw[hc]at i3
 try rw[hc]
 rw[f4]at hA;have i4:Below w6.heap.size w6 w7:=(by rw[c9];exact aD w6 _);have n0:w7.heap.size=c+1:=(by rw[c9];simp[hc]);rw[<-c9]at i3
 try rw[<-c9]
 clear c9;have a5:Below wb.heap.size wb w7:=aC t (aC i2 i4);have a6:=i0.later i4;have n1:wb.heap.size<=c:=(by have:=i2.size;have:=t.size;omega);have m8:mb<wb.heap.size:=aB b8;have j8:=aE a5 c1;have j9:=aE a5 c5;have k0:=aE a5 c6;have c0:=aE a5 b8
 have k3:∀{b:Nat} {b9:Array Value} {e:TypeId} {m:Nat×Nat},w7.heap[b]?=some (Obj.cells b9 e m)->e≠81->(Value.slice pl nl cl).ownBlock≠some b:=fun H he e=>by
  obtain⟨_,b9,U⟩:=ac.block a6 _ e;rw[U]at H;simp only[Option.some.injEq,Obj.cells.injEq]at H;exact he H.2.1.symm
 have h0:ro M Wx Wx.heap.size B x d mb tb (.slice pp p.length pc) [] (qw (ir M f (xs.take 0))) (fun b=>b<w7.heap.size/\b≠c/\(Value.slice pl nl cl).ownBlock≠some b) w7:=by
  refine⟨⟨w7,⟨vu _,aA c0 0,⟨.nil,none,aA c0 1,rfl,rfl⟩,fun j=>zq w7 mb j _ _ c0,List.Pairwise.nil,zg _ _,⟨_,_,c0,rfl⟩⟩,rh.nil,fun _ _ _ h=>(by cases h)⟩,⟨by omega,by omega,k3 c0 (by decide)⟩,j8,j9,k0,a3,fun b H=>?_,b1.trans (a5.mono HZ.2)⟩;by_cases e:(Value.slice pl nl cl).ownBlock=some b
  ·obtain⟨_,b9,U⟩:=ac.block a6 b e;exact .inr ⟨b9,_,_,U⟩
  exact .inl ⟨by omega,by omega,e⟩
 have k4:=Kc.iu c j5 w7 a6;rw[hA]at k4;have l9:∀b,(Value.slice pl nl cl).ownBlock=some b->b<w7.heap.size:=(fun b H=>(ac.lt a6 b H).2);generalize b6:({ tmps:=_,defers:=_ }:Act)=act;clear i4 i0 j6 i2 j8 j9 k0 c0;refine(wpIn_wide (n:=0)).1 ?_
 refine Kc.eb (sv:=.func (.func 43) #[] #[.pointer (some ⟨c,0,none⟩)]) (by rw[<-b6];rfl) k4 (fun _=>rfl)
  (fun k S w=>∃Lk:List (VX M×SV),Lk.length<=k/\ro M Wx Wx.heap.size B x d mb tb (.slice pp p.length pc) Lk (qw (ir M f (xs.take k))) S w) (fun _ _ _ _=>False) ?l1 (fun _ _ _ _ _ h=>h.elim) _ ?hS ?hM ?hSM ⟨i3,a6⟩ ⟨[],zj _,h0⟩
  (fun x=>{ tmps:=(act.tmps.setIfInBounds 23 (.int .i64 x)).setIfInBounds 4 (.int .i64 x),defers:=[] }) ?pre ?body ?done (fun _ _ _ _ _ _ _ _ _ h=>h.elim)
 case l1=>exact fun k T A B⟨Lk,U,h2⟩ a7 i5 H m0 m1=>⟨Lk,U,h2.loc i5 H m0 m1⟩
 case hS=>exact fun b H=>H.1
 case hM =>
  rintro b(rfl|h)
  ·omega
  exact l9 b h
 case hSM =>
  rintro b H(h|h)
  ·exact H.2.1 h
  exact H.2.2 h
 case pre =>
  intro l x W K t;subst b6;dsimp only[enc1]
  gi_wp2
  exact t
 case body =>
  rintro l k hk T W1 a7 k5⟨Lk,e1,hG⟩;obtain⟨i,hi⟩:=ae (xs[k]);obtain⟨g3,k6⟩:=h9 _ (z8 hk);have k7:=a7 mb hG.sm
  have HK:Hid (∀y,Below W1.heap.size W1 y->y.heap[B]?=some (.cells #[.pointer (some ⟨x,0,none⟩)] 22)/\y.heap[B+1]?=some (.cells #[.pointer (some ⟨d,0,none⟩)] 24)/\y.heap[x]?=some (.cells #[.string tb,.slice pp p.length pc,.pointer (some ⟨mb,0,none⟩)] 45)/\Calls prog 17 #[.pointer (some ⟨d,0,none⟩),.string tb,.int .i64 i,.slice pp p.length pc] y fun e w'=>e=.returned (.tuple #[.agg #[.int .i64 ((f i).1.1),.int .i64 ((f i).1.2.1),.string ((f i).1.2.2)],.bool (f i).2])/\Below y.heap.size y w'):=aa (fun y hy=>by
   have U:=hG.later k7 hy;exact⟨U.c2,U.c3,U.cx,j2.out y U.bel i (hi▸g3)⟩)
  have HG:=aa (ab hG (ab a7 (ab e1 (ab hk (ab hi k6)))));rw[hi];obtain⟨u,hu⟩:=ae ((f i).1);obtain⟨ok,e3⟩:=ae ((f i).2);rw[hu,e3]at HK;subst b6;dsimp only;clear hG a7 e1 g3 k6 k5 h0
  gi_upto_region 5 with fail
  refine Par.py (F:=Fence.wide.inRound l) (mm:=0) rfl 17 14 15 12 (W1.heap.size) 32 (#[.int .i64 0,.int .i64 0,.string e0]) (Par.AQ) (fun y=>Below W1.heap.size W1 y) (Par.Am [(.eq (.pointer (some ⟨d,0,none⟩))),(.eq (.pointer (some ⟨x,0,none⟩))),(.eq (.pointer (some ⟨x,0,none⟩))),(.eq (.pointer (some ⟨x,0,none⟩))),(.eq (.string tb)),(.eq (.int .i64 i)),(.eq (.pointer (some ⟨x,0,none⟩))),(.eq (.pointer (some ⟨x,0,none⟩))),(.eq (.pointer (some ⟨x,1,none⟩))),(.eq (.slice pp p.length pc)),(.eq (.tuple #[.agg #[.int .i64 u.1,.int .i64 u.2.1,.string u.2.2],.bool ok])),(.eq (.tuple #[.agg #[.int .i64 u.1,.int .i64 u.2.1,.string u.2.2],.bool ok])),(.eq (.agg #[.int .i64 u.1,.int .i64 u.2.1,.string u.2.2])),(.eq (.bool ok)),(.any),(.any),(.eq (.bool ok))]) ?A3 (by kernel_rfl) ?hm3 ?hB3 (fun w w' h ht=>h.trans ht.below) (Par.Am.mono _) (fun w h=>h.size) ?hA3 (aG W1) (by decide) (by decide) (by decide) (by kernel_rfl) (by kernel_rfl) (by decide) ?hop3 ?hT3
  case hm3=>kernel_rfl
  case hB3=>kernel_rfl
  case hA3 =>
   intro vs;simp only[Par.am,Par.ai,Act.put,eh,ez,dz,eo,ew,ey,ed];rfl
  case hop3 =>
   have m2:(List.range 17).map (Par.ki 14 15)=[.val,.val,.val,.val,.val,.val,.val,.val,.val,.val,.val,.val,.val,.val,.new,.put,.val]:=rfl;simp only[m2,en,zh,Par.cw,yo];refine⟨fun vs w t o=>?_,fun vs w t o=>?_,fun vs w t o=>?_,fun vs w t o=>?_,fun vs w t o=>?_,fun vs w t o=>?_,fun vs w t o=>?_,fun vs w t o=>?_,fun vs w t o=>?_,fun vs w t o=>?_,fun vs w t o=>?_,fun vs w t o=>?_,fun vs w t o=>?_,fun vs w t o=>?_,fun vs w t=>?_,fun vs w g t o a hz=>?_,fun vs w t o=>?_⟩
   ·have q1:=aA (HK.out w t).2.1 0;have Q:=aB (HK.out w t).2.1;clear o;simp only[Par.af];go_simp;all_goals exact⟨rfl,zg _ _⟩
   ·have q1:=aA (HK.out w t).1 0;have Q:=aB (HK.out w t).1;clear o;simp only[Par.af];go_simp;all_goals exact⟨rfl,zg _ _⟩
   ·have d1:=o 1 (by decide) (by decide) (by decide) (by kernel_rfl);replace d1:vs 1=.pointer (some ⟨x,0,none⟩):=d1;have Q:=aB (HK.out w t).2.2.1;clear o;simp only[Par.af,d1];go_simp;all_goals exact⟨rfl,zg _ _⟩
   ·have d2:=o 2 (by decide) (by decide) (by decide) (by kernel_rfl);replace d2:vs 2=.pointer (some ⟨x,0,none⟩):=d2;clear o;simp only[Par.af,d2];go_simp;all_goals exact⟨rfl,zg _ _⟩
   ·have J:=o 3 (by decide) (by decide) (by decide) (by kernel_rfl);replace J:vs 3=.pointer (some ⟨x,0,none⟩):=J;have q1:=aA (HK.out w t).2.2.1 0;have Q:=aB (HK.out w t).2.2.1;clear o;simp only[Par.af,J];go_simp;all_goals exact⟨rfl,zg _ _⟩
   ·clear o;simp only[Par.af];go_simp;all_goals exact⟨rfl,zg _ _⟩
   ·have q1:=aA (HK.out w t).1 0;have Q:=aB (HK.out w t).1;clear o;simp only[Par.af];go_simp;all_goals exact⟨rfl,zg _ _⟩
   ·have R:=o 6 (by decide) (by decide) (by decide) (by kernel_rfl);replace R:vs 6=.pointer (some ⟨x,0,none⟩):=R;have Q:=aB (HK.out w t).2.2.1;clear o;simp only[Par.af,R];go_simp;all_goals exact⟨rfl,zg _ _⟩
   ·have V:=o 7 (by decide) (by decide) (by decide) (by kernel_rfl);replace V:vs 7=.pointer (some ⟨x,0,none⟩):=V;clear o;simp only[Par.af,V];go_simp;all_goals exact⟨rfl,zg _ _⟩
   ·have Y:=o 8 (by decide) (by decide) (by decide) (by kernel_rfl);replace Y:vs 8=.pointer (some ⟨x,1,none⟩):=Y;have q1:=aA (HK.out w t).2.2.1 1;have Q:=aB (HK.out w t).2.2.1;clear o;simp only[Par.af,Y];go_simp;all_goals exact⟨rfl,zg _ _⟩
   ·have I:=o 0 (by decide) (by decide) (by decide) (by kernel_rfl);replace I:vs 0=.pointer (some ⟨d,0,none⟩):=I;have P:=o 4 (by decide) (by decide) (by decide) (by kernel_rfl);replace P:vs 4=.string tb:=P;have Z:=o 5 (by decide) (by decide) (by decide) (by kernel_rfl);replace Z:vs 5=.int .i64 i:=Z;have d9:=o 9 (by decide) (by decide) (by decide) (by kernel_rfl);replace d9:vs 9=(.slice pp p.length pc):=d9;clear o;simp only[Par.af,I,P,Z,d9];go_simp;exact((HK.out w t).2.2.2).mono (fun e i8 h=>⟨_,h.1,⟨rfl,h.2⟩⟩)
   ·have N:=o 10 (by decide) (by decide) (by decide) (by kernel_rfl);replace N:vs 10=.tuple #[.agg #[.int .i64 u.1,.int .i64 u.2.1,.string u.2.2],.bool ok]:=N;clear o;simp only[Par.af,N];go_simp;all_goals exact⟨rfl,zg _ _⟩
   ·have O:=o 11 (by decide) (by decide) (by decide) (by kernel_rfl);replace O:vs 11=.tuple #[.agg #[.int .i64 u.1,.int .i64 u.2.1,.string u.2.2],.bool ok]:=O;clear o;simp only[Par.af,O];go_simp;all_goals exact⟨rfl,zg _ _⟩
   ·have O:=o 11 (by decide) (by decide) (by decide) (by kernel_rfl);replace O:vs 11=.tuple #[.agg #[.int .i64 u.1,.int .i64 u.2.1,.string u.2.2],.bool ok]:=O;clear o;simp only[Par.af,O];go_simp;all_goals exact⟨rfl,zg _ _⟩
   ·clear t;simp only[Par.af];go_simp;all_goals exact⟨rfl,rfl⟩
   ·have a0:=o 12 (by decide) (by decide) (by decide) (by kernel_rfl);replace a0:vs 12=.agg #[.int .i64 u.1,.int .i64 u.2.1,.string u.2.2]:=a0;have z0:=aA hz 0;have z1:=aA hz 1;have z2:=aA hz 2;have zf:=(fun i=>zq w g i _ _ hz);have zl:=aB hz;have HZ:=aa hz;clear t o hz;simp only[Par.af,a,a0];go_simp;exact⟨nA w g _ _ _,gD HZ.out _ _ _⟩
   have a8:=o 13 (by decide) (by decide) (by decide) (by kernel_rfl);replace a8:vs 13=.bool ok:=a8;clear o;simp only[Par.af,a8];go_simp;all_goals exact⟨rfl,zg _ _⟩
  intro vs w' g t E a m3 hz;simp only[ex,ym];have I:=E 0 (by decide) (by decide) (by decide);replace I:vs 0=.pointer (some ⟨d,0,none⟩):=I;have d1:=E 1 (by decide) (by decide) (by decide);replace d1:vs 1=.pointer (some ⟨x,0,none⟩):=d1;have d2:=E 2 (by decide) (by decide) (by decide);replace d2:vs 2=.pointer (some ⟨x,0,none⟩):=d2;have J:=E 3 (by decide) (by decide) (by decide);replace J:vs 3=.pointer (some ⟨x,0,none⟩):=J;have P:=E 4 (by decide) (by decide) (by decide);replace P:vs 4=.string tb:=P;have Z:=E 5 (by decide) (by decide) (by decide);replace Z:vs 5=.int .i64 i:=Z;have R:=E 6 (by decide) (by decide) (by decide);replace R:vs 6=.pointer (some ⟨x,0,none⟩):=R;have V:=E 7 (by decide) (by decide) (by decide);replace V:vs 7=.pointer (some ⟨x,0,none⟩):=V;have Y:=E 8 (by decide) (by decide) (by decide);replace Y:vs 8=.pointer (some ⟨x,1,none⟩):=Y;have d9:=E 9 (by decide) (by decide) (by decide);replace d9:vs 9=(.slice pp p.length pc):=d9;have N:=E 10 (by decide) (by decide) (by decide);replace N:vs 10=.tuple #[.agg #[.int .i64 u.1,.int .i64 u.2.1,.string u.2.2],.bool ok]:=N;have O:=E 11 (by decide) (by decide) (by decide);replace O:vs 11=.tuple #[.agg #[.int .i64 u.1,.int .i64 u.2.1,.string u.2.2],.bool ok]:=O;have a0:=E 12 (by decide) (by decide) (by decide);replace a0:vs 12=.agg #[.int .i64 u.1,.int .i64 u.2.1,.string u.2.2]:=a0;have a8:=E 13 (by decide) (by decide) (by decide);replace a8:vs 13=.bool ok:=a8;have f5:=E 16 (by decide) (by decide) (by decide);replace f5:vs 16=.bool ok:=f5;clear E;rw[a0]at hz;simp only[a,I,d1,d2,J,P,Z,R,V,Y,d9,N,O,a0,a8,f5];clear a I d1 d2 J P Z R V Y d9 N O a0 a8 f5;obtain⟨w8,rfl⟩:∃y,y=w':=⟨_,rfl⟩;have hz:w8.heap[g]?=some (.cells #[.int .i64 u.1,.int .i64 u.2.1,.string u.2.2] 32):=hz;have e4:=aa (ab t hz);clear t hz m3;cases ok with
  | false =>
   gi_wp2_with fail
   obtain⟨hG,a7,e1,hk,hi,_⟩:=HG.out;obtain⟨S2,q1,Q,q3,q4⟩:=hG.quiet (a7 mb hG.sm) a7 e4.1;exact⟨S2,q1,Q,q3,Lk,by omega,by rw[Fd hk (by rw[hi];exact e3)];exact q4⟩
  | true =>
   gi_upto_region 7 with fail
   obtain⟨s,hs⟩:=ae ((ak aw (pw M u) Lk).getD (none,0,0));obtain⟨bb,m4⟩:=ae ((ak aw (pw M u) Lk).isSome)
   have g4:Lk.length<=100000:=by
    have U:=HG.2.2.1;have h2:=HG.2.2.2.1;have h3:=HV.1;omega
   have eu:AH (pw M u)=.agg #[.int .i64 u.1,.int .i64 u.2.1,.string u.2.2]:=by
    have:(pw M u).1=u:=Ec (by rw[<-hu,<-HG.2.2.2.2.1];exact HG.2.2.2.2.2);unfold AH;rw[this]
   have H7:Hid (∀y,Below w8.heap.size w8 y->y.heap[B]?=some (.cells #[.pointer (some ⟨x,0,none⟩)] 22)/\y.heap[x]?=some (.cells #[.string tb,.slice pp p.length pc,.pointer (some ⟨mb,0,none⟩)] 45)/\y.heap[g]?=some (.cells #[.int .i64 u.1,.int .i64 u.2.1,.string u.2.2] 32)/\Calls prog 18 #[.pointer (some ⟨mb,0,none⟩),.agg #[.int .i64 u.1,.int .i64 u.2.1,.string u.2.2]] y fun e w'=>e=.returned (.tuple #[jc s,.bool bb])/\Below y.heap.size y w'):=aa (fun y hy=>by
    have H:=aC e4.1 hy;have U:=HK.out y H;have h2:=(HG.1.later (HG.2.1 mb HG.1.sm) H).get g4 (pw M u) hs;rw[m4,eu]at h2;exact⟨U.1,U.2.2.1,aE hy e4.2,h2⟩)
   refine Par.oj (F:=Fence.wide.inRound l) (mm:=0) rfl 11 (fun y=>Below w8.heap.size w8 y) (Par.VL [(.eq (.pointer (some ⟨x,0,none⟩))),(.eq (.pointer (some ⟨x,0,none⟩))),(.eq (.pointer (some ⟨x,2,none⟩))),(.eq (.pointer (some ⟨mb,0,none⟩))),(.eq (.agg #[.int .i64 u.1,.int .i64 u.2.1,.string u.2.2])),(.eq (.tuple #[jc s,.bool bb])),(.eq (.tuple #[jc s,.bool bb])),(.eq (jc s)),(.eq (.bool bb)),(.eq (jc s)),(.eq (.bool bb))]) ?A4 (by kernel_rfl) ?hm4 ?hB4 (fun w w' h H=>aC h H) (Par.VL.mono _) ?hA4 (aG w8) ?hop4 ?hT4
   case hm4=>kernel_rfl
   case hB4=>kernel_rfl
   case hA4 =>
    intro vs;simp only[Par.am,Par.ai,Act.put,eh,ez,dz,eo,ew,ey,ed];rfl
   case hop4 =>
    simp only[en,zh,Par.fo,yo];and_intros<;>intro vs w t o
    ·have q1:=aA (H7.out w t).1 0;have Q:=aB (H7.out w t).1;clear o;simp only[Par.au];go_simp;all_goals exact⟨rfl,zg _ _⟩
    ·have I:=o 0 (by decide) (by kernel_rfl);replace I:vs 0=.pointer (some ⟨x,0,none⟩):=I;have Q:=aB (H7.out w t).2.1;clear o;simp only[Par.au,I];go_simp;all_goals exact⟨rfl,zg _ _⟩
    ·have d1:=o 1 (by decide) (by kernel_rfl);replace d1:vs 1=.pointer (some ⟨x,0,none⟩):=d1;clear o;simp only[Par.au,d1];go_simp;all_goals exact⟨rfl,zg _ _⟩
    ·have d2:=o 2 (by decide) (by kernel_rfl);replace d2:vs 2=.pointer (some ⟨x,2,none⟩):=d2;have q1:=aA (H7.out w t).2.1 2;have Q:=aB (H7.out w t).2.1;clear o;simp only[Par.au,d2];go_simp;all_goals exact⟨rfl,zg _ _⟩
    ·have q0:=aA (H7.out w t).2.2.1 0;have q1:=aA (H7.out w t).2.2.1 1;have Q:=aA (H7.out w t).2.2.1 2;have q3:=aB (H7.out w t).2.2.1;clear o;simp only[Par.au];go_simp;all_goals exact⟨rfl,zg _ _⟩
    ·have J:=o 3 (by decide) (by kernel_rfl);replace J:vs 3=.pointer (some ⟨mb,0,none⟩):=J;have P:=o 4 (by decide) (by kernel_rfl);replace P:vs 4=.agg #[.int .i64 u.1,.int .i64 u.2.1,.string u.2.2]:=P;clear o;simp only[Par.au,J,P];go_simp;exact((H7.out w t).2.2.2).mono (fun e i8 h=>⟨_,h.1,⟨rfl,h.2⟩⟩)
    ·have Z:=o 5 (by decide) (by kernel_rfl);replace Z:vs 5=.tuple #[jc s,.bool bb]:=Z;clear o;simp only[Par.au,Z];go_simp;all_goals exact⟨rfl,zg _ _⟩
    ·have R:=o 6 (by decide) (by kernel_rfl);replace R:vs 6=.tuple #[jc s,.bool bb]:=R;clear o;simp only[Par.au,R];go_simp;all_goals exact⟨rfl,zg _ _⟩
    ·have R:=o 6 (by decide) (by kernel_rfl);replace R:vs 6=.tuple #[jc s,.bool bb]:=R;clear o;simp only[Par.au,R];go_simp;all_goals exact⟨rfl,zg _ _⟩
    ·have V:=o 7 (by decide) (by kernel_rfl);replace V:vs 7=(jc s):=V;clear o;simp only[Par.au,V];go_simp;all_goals exact⟨rfl,zg _ _⟩
    ·have Y:=o 8 (by decide) (by kernel_rfl);replace Y:vs 8=.bool bb:=Y;clear o;simp only[Par.au,Y];go_simp;all_goals exact⟨rfl,zg _ _⟩
   case hT4 =>
    intro vs w' t E;simp only[ex,ym];have I:=E 0 (by decide);replace I:vs 0=.pointer (some ⟨x,0,none⟩):=I;have d1:=E 1 (by decide);replace d1:vs 1=.pointer (some ⟨x,0,none⟩):=d1;have d2:=E 2 (by decide);replace d2:vs 2=.pointer (some ⟨x,2,none⟩):=d2;have J:=E 3 (by decide);replace J:vs 3=.pointer (some ⟨mb,0,none⟩):=J;have P:=E 4 (by decide);replace P:vs 4=.agg #[.int .i64 u.1,.int .i64 u.2.1,.string u.2.2]:=P;have Z:=E 5 (by decide);replace Z:vs 5=.tuple #[jc s,.bool bb]:=Z;have R:=E 6 (by decide);replace R:vs 6=.tuple #[jc s,.bool bb]:=R;have V:=E 7 (by decide);replace V:vs 7=(jc s):=V;have Y:=E 8 (by decide);replace Y:vs 8=.bool bb:=Y;have d9:=E 9 (by decide);replace d9:vs 9=(jc s):=d9;have N:=E 10 (by decide);replace N:vs 10=.bool bb:=N;clear E;simp only[I,d1,d2,J,P,Z,R,V,Y,d9,N];clear I d1 d2 J P Z R V Y d9 N;obtain⟨w9,rfl⟩:∃y,y=w':=⟨_,rfl⟩;have f6:=aC e4.1 t;have k8:=aE t e4.2;clear t
    gi_upto_region 8 with fail
    have g5:=f6.size;have i6:=HG.1.later (HG.2.1 mb HG.1.sm) f6;have e5:fi T w9:=(fun b H=>z9 (HG.2.1 b H) g5);have e6:=e5 mb i6.sm;obtain⟨wd,i7⟩:=ae w9.drew;have f7:Below w9.heap.size w9 wd:=(by rw[<-i7];exact aG w9);have e7:wd.heap.size=w9.heap.size:=(by rw[<-i7];rfl);have f8:=i6.later e6 f7;have f9:=f8.later (by rw[e7];exact e6) (aD wd (.cells #[.int .i64 i] 3))
    have g6:((ak aw (pw M u) (qw (ir M f (xs.take k)))).getD []).length<=100000:=by
     have h2:=HG.2.2.2.1;have h3:=HV.1;cases hg:ak aw (pw M u) (qw (ir M f (xs.take k)))with
     | none=>exact zj _
     | some r =>
      obtain⟨q,h4,h5⟩:=oW hg;have h6:=yR _ q h4;have h7:=pA (M:=M) (f:=f) (A:=xs.take k);rw[xq]at h7;show r.length<=100000;rw[<-h5];omega
    obtain⟨s',wp,g7,g0,a9⟩:=f9.app (by rw[zm,e7];omega) (fun b H=>by rw[zm,e7];have:=e5 b H;omega) g4 (pw M u) hs i g6 (z7 wd _);rw[eu]at a9;have e8:wd.heap[g]?=some (.cells #[.int .i64 u.1,.int .i64 u.2.1,.string u.2.2] 32):=aE f7 k8;have k9:wd.heap[B]?=some (.cells #[.pointer (some ⟨x,0,none⟩)] 22)/\wd.heap[x]?=some (.cells #[.string tb,.slice pp p.length pc,.pointer (some ⟨mb,0,none⟩)] 45)/\wd.heap[g]?=some (.cells #[.int .i64 u.1,.int .i64 u.2.1,.string u.2.2] 32):=⟨f8.c2,f8.cx,e8⟩;have e9:(wd.alloc (.cells #[.int .i64 i] 3)).heap[B]?=some (.cells #[.pointer (some ⟨x,0,none⟩)] 22)/\(wd.alloc (.cells #[.int .i64 i] 3)).heap[x]?=some (.cells #[.string tb,.slice pp p.length pc,.pointer (some ⟨mb,0,none⟩)] 45)/\(wd.alloc (.cells #[.int .i64 i] 3)).heap[g]?=some (.cells #[.int .i64 u.1,.int .i64 u.2.1,.string u.2.2] 32):=⟨f9.c2,f9.cx,aE (aD wd _) e8⟩;have l2:wp.heap[B]?=some (.cells #[.pointer (some ⟨x,0,none⟩)] 22)/\wp.heap[x]?=some (.cells #[.string tb,.slice pp p.length pc,.pointer (some ⟨mb,0,none⟩)] 45)/\wp.heap[g]?=some (.cells #[.int .i64 u.1,.int .i64 u.2.1,.string u.2.2] 32):=⟨g0 _ _ _ (by decide) e9.1,g0 _ _ _ (by decide) e9.2.1,g0 _ _ _ (by decide) e9.2.2⟩;have a1:Hid (∀{l':Nat->Bool} {vs':Nat->Value} {y:World},JU (fun j=>[.pointer (some ⟨x,0,none⟩),.pointer (some ⟨x,0,none⟩),.pointer (some ⟨x,2,none⟩),.pointer (some ⟨mb,0,none⟩),.agg #[.int .i64 u.1,.int .i64 u.2.1,.string u.2.2],jc s,.int .i64 i].getD j undef) wd i (fun v8 y=>v8=jc s'/\y=wp) l' vs' y->y.heap[B]?=some (.cells #[.pointer (some ⟨x,0,none⟩)] 22)/\y.heap[x]?=some (.cells #[.string tb,.slice pp p.length pc,.pointer (some ⟨mb,0,none⟩)] 45)/\y.heap[g]?=some (.cells #[.int .i64 u.1,.int .i64 u.2.1,.string u.2.2] 32)):=aa (fun z=>z.any (F:=fun y=>y.heap[B]?=some (.cells #[.pointer (some ⟨x,0,none⟩)] 22)/\y.heap[x]?=some (.cells #[.string tb,.slice pp p.length pc,.pointer (some ⟨mb,0,none⟩)] 45)/\y.heap[g]?=some (.cells #[.int .i64 u.1,.int .i64 u.2.1,.string u.2.2] 32)) k9 e9 (fun v y h=>by obtain⟨_,rfl⟩:=h;exact l2));have l3:=aa (ab g7 a9);have l4:=aa (ab f6 (ab f7 e7));clear i6 e5 f8 f9 g6 g0 k9 e9 l2 e8 g7 a9 g5 e6 f6 f7 e7 k8;refine Par.kz (F:=Fence.wide.inRound l) (mm:=0) rfl 9 (JU (fun j=>[.pointer (some ⟨x,0,none⟩),.pointer (some ⟨x,0,none⟩),.pointer (some ⟨x,2,none⟩),.pointer (some ⟨mb,0,none⟩),.agg #[.int .i64 u.1,.int .i64 u.2.1,.string u.2.2],jc s,.int .i64 i].getD j undef) wd i (fun v8 y=>v8=jc s'/\y=wp)) ?A8 (by kernel_rfl) ?hm8 ?hB8 ?hA8 ?hJ8 ?hop8 ?hT8
    case hm8=>kernel_rfl
    case hB8=>kernel_rfl
    case hA8 =>
     intro vs;simp only[Par.am,Par.ai,Act.put,eh,ez,dz,eo,ew,ey,ed];rfl
    case hJ8 =>
     intro vs;rw[i7];exact JU.start vs
    case hop8 =>
     simp only[en,zh,Par.ce,yo];refine⟨fun l' vs w z hl o G=>?_,fun l' vs w z hl o G=>?_,fun l' vs w z hl o G=>?_,fun l' vs w z hl o G=>?_,fun l' vs w z hl o G=>?_,fun l' vs w z hl o G=>?_,fun l' vs w z hl o G=>?_,fun l' vs w z hl o G=>?_,fun l' vs w z hl o G=>?_⟩
     ·have HJ:=aa z;have q1:=aA (a1.out z).1 0;have Q:=aB (a1.out z).1;clear z o G;simp only[Par.af];go_simp;all_goals exact HJ.out.val 0 (by decide)
     ·have HJ:=aa z;have Q:=aB (a1.out z).2.1;have I:vs 0=.pointer (some ⟨x,0,none⟩):=z.lo 0 (by decide) (o 0 (by kernel_rfl));clear z o G;simp only[Par.af,I];go_simp;all_goals exact HJ.out.val 1 (by decide)
     ·have HJ:=aa z;have d1:vs 1=.pointer (some ⟨x,0,none⟩):=z.lo 1 (by decide) (o 1 (by kernel_rfl));clear z o G;simp only[Par.af,d1];go_simp;all_goals exact HJ.out.val 2 (by decide)
     ·have HJ:=aa z;have q1:=aA (a1.out z).2.1 2;have Q:=aB (a1.out z).2.1;have d2:vs 2=.pointer (some ⟨x,2,none⟩):=z.lo 2 (by decide) (o 2 (by kernel_rfl));clear z o G;simp only[Par.af,d2];go_simp;all_goals exact HJ.out.val 3 (by decide)
     ·have HJ:=aa z;have q0:=aA (a1.out z).2.2 0;have q1:=aA (a1.out z).2.2 1;have Q:=aA (a1.out z).2.2 2;have q3:=aB (a1.out z).2.2;clear z o G;simp only[Par.af];go_simp;all_goals exact HJ.out.val 4 (by decide)
     ·have HJ:=aa z;clear z o G;simp only[Par.af];go_simp;all_goals exact HJ.out.val 5 (by decide)
     ·have HJ:=aa z;clear z o G;simp only[Par.af];go_simp;all_goals exact HJ.out.val 6 (by decide)
     ·have h8:l' 8=false:=(by cases h:l' 8 with|false=>rfl|true=>exact absurd (G 8 7 (by kernel_rfl) h) (by simp[hl]));have HJ:=aa (z.new hl h8);have R:vs 6=.int .i64 i:=z.lo 6 (by decide) (o 6 (by kernel_rfl));clear z o G;simp only[Par.af,R];go_simp;all_goals exact HJ.out
     ·have h7:=o 7 (by kernel_rfl);have Z:vs 5=jc s:=z.lo 5 (by decide) (o 5 (by kernel_rfl));obtain⟨V,rfl⟩:=z.s1 h7 hl;exact Par.fq rfl (.tmp 53) (.tmp 55) 40 40 rfl Z V l3.1 (z.app h7 ⟨rfl,rfl⟩)
    case hT8 =>
     intro l' vs w' hl z;simp only[ex,ye];have J:vs 3=.pointer (some ⟨mb,0,none⟩):=z.lo 3 (by decide) (hl 3 (by decide));have P:vs 4=.agg #[.int .i64 u.1,.int .i64 u.2.1,.string u.2.2]:=z.lo 4 (by decide) (hl 4 (by decide));obtain⟨Y,rfl⟩:=z.s2 (hl 8 (by decide));simp only[J,P,Y];have a9:=l3.2;clear z hl
     gi_wp2_with (gi_at_call 19;refine aI rfl ?_;(with_reducible refine a9.mono ?_);rintro e w2⟨⟨b2,rfl⟩,S2,q1,Q,q3,L',q4,q5⟩)
     obtain⟨hG,a7,e1,hk,hi,_⟩:=HG.out;have l5:=aC (aC l4.1 l4.2.1) (aD wd (.cells #[.int .i64 i] 3));have m5:=l5.size;refine⟨S2,fun b H=>(q1 b H).imp (fun h=>h) (fun h=>zx m5 h),Q,(Chg.of_below (S:=T) l5).trans q3 (fun _ _ h=>h) (fun _ _ h=>h),L',by omega,?_⟩;rw[EI hk (by rw[hi];exact e3),sE,hi,hu];exact q5
 rintro S' W' hg hi n2⟨Lk,e1,hG⟩ hQ t m6;subst b6;rw[List.take_length]at hG;refine(yZ rfl t (fun w' f0 i5=>?_)).1;have f1:=hG.loc (xn i5.symm) (fun b H=>f0.block b (hi b H) (fun e=>m6 (e▸H))) (fun b b9 e m hh=>(f0.block b (aB hh) (fun e2=>by rw[e2,t]at hh;cases hh)).trans hh) ⟨f0.os,f0.tape,f0.output⟩;refine⟨rfl,?_,j0.trans (Tn.of_below f1.bel) (fun _ _ h=>h) (fun _ _ h=>h),⟨_,f1.cx⟩⟩;rw[f4];obtain⟨W0,U,h2,_⟩:=f1.mp;have n3:=HV.1
 exact⟨⟨_,mb,Lk,f1.cx,j1.later f1.bel,⟨W0,U⟩,h2.base (zj _),by omega,fun g hg=>by
  have:=yR _ g hg
  have:=pA (M:=M) (f:=f) (A:=xs)
  omega⟩⟩
