import Derived.Test.YthlccadnojnkaaaGreatZn2
import Derived.Test.YthlccadnojnkaaaGreatZn7
import Derived.Test.YthlccadnojnkaaaGreatZn12
set_option maxHeartbeats 1000000
set_option maxRecDepth 100000
namespace Go.Proofs.YthlccadnojnkaaaGreat
open Go.Proofs.Tryz
open Go Go.RowKit Go.Proofs
def fw(l:List R3):List Value:=l.flatMap fun x=>[.int .i64 x.1,.int .i64 x.2.1,.int .i64 x.2.2]
theorem eJ(xs ys:List R3):fw (xs++ys)=fw xs++fw ys:=by simp[fw]
theorem fN(x:R3)(r:List R3):fw (x::r)=.int .i64 x.1::.int .i64 x.2.1::.int .i64 x.2.2::fw r:=by simp[fw]
theorem mF(xs:List R3):(fw xs).length=xs.length*3:=by
 induction xs with
 | nil=>rfl
 | cons x r ih=>rw[fN,xe,xe,xe,xe,ih];omega
theorem pC(xs:List R3)(i:Nat)(x:R3)(h:xs[i]?=some x):(fw xs)[i*3]?=some (.int .i64 x.1)/\(fw xs)[i*3+1]?=some (.int .i64 x.2.1)/\(fw xs)[i*3+2]?=some (.int .i64 x.2.2):=by
 induction xs generalizing i with
 | nil=>simp at h
 | cons y r ih =>
  cases i with
  | zero=>simp at h;subst h;simp[fN]
  | succ i =>
   have:=ih i (by simpa using h)
   rw[fN,show(i+1)*3=i*3+1+1+1 by omega,show i*3+1+1+1+1=i*3+1+1+1+1 by omega];simp only[bt];exact this
theorem sP(xs:List R3)(x:R3)(b:Int):(fw (xs++[x])).set (xs.length*3+1) (.int .i64 b)=fw (xs++[(x.1,b,x.2.2)]):=by
 rw[eJ,eJ,List.set_append_right _ _ (by rw[mF];omega),mF,show xs.length*3+1-xs.length*3=1 by omega];simp[fw]
def Mv(W:World)(v:Value)(l:List R2):Prop:=ac W 0 146 3 v l.length (fw (mk l))
theorem Mv.later{W W':World}{v:Value}{l:List R2}(h:Mv W v l)(hb:Below W.heap.size W W'):Mv W' v l:=ac.later h hb
theorem Mv.nil(W:World):Mv W (.slice none 0 0) []:=ac.nil
theorem Mv.slice{W:World}{v:Value}{l:List R2}(h:Mv W v l):∃p a,v=.slice p l.length a/\l.length<=a/\a<=maxLen:=ac.isslice h
theorem Mv.run{W:World}{p:Option Addr}{cap:Nat}{l:List R2}(h:Mv W (.slice p l.length cap) l){j:Nat}(hj:j<l.length):∃g,p=some ⟨g,0,none⟩/\g<W.heap.size/\W.cell? ⟨g,j*3,none⟩=some (.int .i64 (l[j].1))/\W.cell? ⟨g,j*3+1,none⟩=some (.int .i64 (l[j].2))/\W.cell? ⟨g,j*3+2,none⟩=some (.int .i64 (((els (l.take j)).length:Nat):Int)):=by
 obtain⟨g,a,e,_,_⟩:=ac.slice h (by omega);cases e;obtain⟨c0,c1,c2⟩:=pC (mk l) j _ (wQ l j hj);exact⟨g,rfl,(ac.lt h g rfl).2,ac.cell h c0,ac.cell h c1,ac.cell h c2⟩
def Fst(D:Nat)(W0:World)(fv:Value)(l:List R2)(p:Nat->Bool):Prop:=∃(g:Nat) (lb:Array Value),fv=.func (.func g) #[] lb/\(∀a w,(callFunc g a).run prog w=.ok (.enter g a) w)/\∀w j (h:j<l.length),Below D W0 w->Calls prog g (#[.agg #[.int .i64 (l[j].1),.int .i64 (l[j].2),.int .i64 ((els (l.take j)).length:Int)]]++lb) w fun e w'=>e=.returned (.bool (p j))/\Below w.heap.size w w'
theorem wT(f t c:Int)(W:World):Calls prog 91 #[.agg #[.int .i64 f,.int .i64 t,.int .i64 c]] W fun e a=>e=.returned (.bool true)/\Below W.heap.size W a:=by
 go_enter func91,ntmps91
 go_wp2
 go_ret;exact⟨rfl,aD W _⟩
theorem aM{W w1:World}{p:Addr}{v:Value}(hb:Below W.heap.size W w1)(h:W.cell? p=some v):w1.cell? p=some v:=
 (za (w:=W) (hb.block _ (xn W p h))).trans h
theorem Ip{D:Nat}{W0 W:World}{fv:Value}{l:List R2}{q:Nat->Bool}{fb mb cap:Nat}{p:Option Addr}(hF:Fst D W0 fv l q)(hD:Below D W0 W)(hDW:D<=W.heap.size)(hf:W.cell? ⟨fb,0,none⟩=some fv)(hm:W.cell? ⟨mb,0,none⟩=some (.slice p l.length cap))(hv:Mv W (.slice p l.length cap) l)(j:Nat)(hj:j<l.length):Calls prog 127 #[.int .i64 (j:Int),.pointer (some ⟨fb,0,none⟩),.pointer (some ⟨mb,0,none⟩)] W fun e k=>e=.returned (.bool (!(q j)))/\Below W.heap.size W k:=by
 obtain⟨g,rfl,o,c0,c1,c2⟩:=hv.run hj;obtain⟨m,lb,rfl,h,f⟩:=hF;have d:=f W.drew j hj (hD.trans ((zb _ W).drew.mono hDW));clear hv f;generalize q j=b at d ⊢;obtain⟨n,i⟩:=ag l.length;simp only[i]at hm hj;generalize l[j]=r at d c0 c1;generalize ((els (l.take j)).length:Int)=c at d c2;clear i;go_enter func127,ntmps127;go_wp2_with fail
 go_region_held3 (fun w=>w.cell? ⟨fb,0,none⟩=some (.func (.func m) #[] lb)/\w.cell? ⟨mb,0,none⟩=some (.slice (some ⟨g,0,none⟩) n cap)/\w.cell? ⟨g,j*3,none⟩=some (.int .i64 r.1)/\w.cell? ⟨g,j*3+1,none⟩=some (.int .i64 r.2)/\w.cell? ⟨g,j*3+2,none⟩=some (.int .i64 c)) (first|exact⟨hf,hm,c0,c1,c2⟩ | exact⟨aM a hf,aM a hm,aM a c0,aM a c1,aM a c2⟩) (first | ((with_reducible refine d.mono ?_);rintro e s⟨rfl,a⟩))
 go_wp2_with fail;go_ret;exact⟨rfl,(zb _ W).drew.trans a⟩
def Found(n:Nat)(q:Nat->Bool)(W:World)(e:Ending)(w':World):Prop:=∃m:Nat,m<=n/\e=.returned (.int .i64 (m:Int))/\(∀j,j<n->(j<m↔q j=false))/\Below W.heap.size W w'
theorem wU{D n:Nat}{W0 W:World}{fv:Value}{q:Nat->Bool}(hn:n<=65536)(hmono:∀j k,j<=k->k<n->q j=true->q k=true)(hD:Below D W0 W)(hDW:D<=W.heap.size)(hF:∃(g:Nat) (lb:Array Value),fv=.func (.func g) #[] lb/\(∀a w,(callFunc g a).run prog w=.ok (.enter g a) w)/\∀w j,j<n->Below D W0 w->Calls prog g (#[.int .i64 (j:Int)]++lb) w fun e B=>e=.returned (.bool (q j))/\Below w.heap.size w B):Calls prog 126 #[.int .i64 (n:Int),fv] W (Found n q W):=by
 obtain⟨L,lb,rfl,v,c⟩:=hF;have x:=aa hmono;have E:=aa c;clear hmono c;go_enter func126,ntmps126;go_wp2_with fail;go_loopg [5,6] n (fun F iv G w=>∃i j:Nat,i<=j/\j<=n/\j<=i+F/\iv=.int .i64 (i:Int)/\G=.int .i64 (j:Int)/\(∀k,k<i->q k=false)/\(∀k,j<=k->k<n->q k=true)/\Below W.heap.size W w)
 case atStart=>exact⟨0,n,zh _,zm _,by omega,rfl,rfl,fun k h=>absurd h (yo k),fun k h r=>by omega,zb _ _⟩
 obtain⟨i,j,H,s,M,rfl,rfl,r,y,m⟩:=hrel;have o:=aa (ab r y);clear r y;by_cases t:i<j
 ·obtain⟨h,N⟩:=ag ((i+j) / 2);have u:=E.out wr h (by omega) (hD.trans (m.mono hDW));obtain⟨b,f⟩:=ag (q h);rw[f]at u;have z:=aa f;clear f;go_upto_region 4 with fail;rw[show((i:Int)+(j:Int)) / 2=(h:Int)by omega];cases b
  ·go_wp2_with ((with_reducible refine u.mono ?_);rintro e I⟨rfl,l⟩);go_roundg (j-(h+1))
   case measure=>omega
   refine⟨h+1,j,by omega,s,by omega,by go_num,rfl,fun k A=>?_,o.2,aB m l⟩;rcases Bool.eq_false_or_eq_true (q k)with d|d
   ·have:=x.out k h (by omega) (by omega) d
    rw[z.out]at this;exact absurd this (by decide)
   exact d
  go_wp2_with ((with_reducible refine u.mono ?_);rintro e I⟨rfl,l⟩);go_roundg (h-i)
  case measure=>omega
  exact⟨i,h,by omega,by omega,by omega,rfl,rfl,o.1,fun k d p=>x.out h k d p z.out,aB m l⟩
 have J:=aa (show i=j by omega);have O:¬ (i:Int)<(j:Int):=(by omega);clear t;go_wp2_with fail;go_ret;refine⟨i,by omega,rfl,fun k A=>⟨o.1 k,fun d=>?_⟩,m⟩;rcases v6 k i with p|p
 ·exact p
 rw[o.2 k (by have:=J.out;omega) A]at d;cases d
def Be(l:List R2)(q:Nat->Bool)(W:World)(e:Ending)(w':World):Prop:=∃m:Nat,m<=l.length/\e=.returned (.agg #[.int .i64 ((ku l m).1),.int .i64 ((ku l m).2.1),.int .i64 ((ku l m).2.2)])/\(∀j,j<l.length->(j<m↔q j=true))/\Below W.heap.size W w'
theorem Ez{D:Nat}{W0 W:World}{v fv:Value}{l:List R2}{q:Nat->Bool}(hl:Nrm l)(hv:Mv W v l)(hD:Below D W0 W)(hDW:D<=W.heap.size)(hF:Fst D W0 fv l q)(hmono:∀j k,j<=k->k<l.length->q k=true->q j=true):Calls prog 90 #[.agg #[v],fv] W (Be l q W):=by
 have A:=cT hl;obtain⟨p,f,rfl,hc,a3⟩:=hv.slice;have HV:=aa hv;obtain⟨H,lb,rfl,a0,a1⟩:=id hF;have Q:=aa hF;obtain⟨d,t⟩:=ag W.heap.size;obtain⟨B,i⟩:=ag (((W.alloc (.cells #[.slice p l.length f] 102)).alloc (.cells #[.func (.func H) #[] lb] 148)).alloc (.cells #[.int .i64 0,.int .i64 0,.int .i64 0] 146));have y:Below W.heap.size W B:=(by rw[<-i];exact(((aD W _).alloc (by simp) _).alloc (by simp;omega) _));have z:B.heap[d]?=some (.cells #[.slice p l.length f] 102):=by rw[<-i,<-t];exact((aD ((W.alloc (.cells #[.slice p l.length f] 102)).alloc (.cells #[.func (.func H) #[] lb] 148)) _).block _ (by simp;omega)).trans (((aD (W.alloc (.cells #[.slice p l.length f] 102)) _).block _ (by simp)).trans (z7 W _))
 have L:B.heap[d+1]?=some (.cells #[.func (.func H) #[] lb] 148):=by
  have h:=z7 (W.alloc (.cells #[.slice p l.length f] 102)) (.cells #[.func (.func H) #[] lb] 148);rw[zj,t]at h;rw[<-i];exact((aD ((W.alloc (.cells #[.slice p l.length f] 102)).alloc (.cells #[.func (.func H) #[] lb] 148)) _).block _ (by simp;omega)).trans h
 have M:B.heap[d+1+1]?=some (.cells #[.int .i64 0,.int .i64 0,.int .i64 0] 146):=by
  have h:=z7 ((W.alloc (.cells #[.slice p l.length f] 102)).alloc (.cells #[.func (.func H) #[] lb] 148)) (.cells #[.int .i64 0,.int .i64 0,.int .i64 0] 146);rw[zj,zj,t]at h;rw[<-i];exact h
 have N:B.heap.size=d+3:=(by rw[<-i,<-t];simp);have h0:=aA z 0;have h1:=aA L 0
 have U:=wU (W:=B) (fv:=.func (.func 127) #[] #[.pointer (some ⟨d+1,0,none⟩),.pointer (some ⟨d,0,none⟩)]) (q:=fun j=>!(q j)) A (fun j k V hk R=>by
   rcases Bool.eq_false_or_eq_true (q k)with X|X
   ·have:=hmono j k V hk X
    simp[this]at R
   ·simp[X]) (zb B.heap.size B) (zm _) ⟨127,_,rfl,by intro a w;rfl,fun w j Y x=>by
   have hf:w.cell? ⟨d+1,0,none⟩=some (.func (.func H) #[] lb):=aM x h1;have E:w.cell? ⟨d,0,none⟩=some (.slice p l.length f):=aM x h0;exact Ip Q.out (hD.trans ((y.mono hDW).trans (x.mono (by omega)))) (by have:=x.size;omega) hf E (HV.out.later (aB y x)) j Y⟩
 have HM:=aa hmono;obtain⟨n,O⟩:=ag l.length;rw[O]at U i A;have s:=aa (ab y (ab N (ab i (ab O t))));have HR:=aa M;rw[O]at z;have Z:=aa z;simp only[O];clear i y N z L M h0 h1 hmono hv hF O;go_enter func90,ntmps90
 go_upto_region 2 with (first|(go_at_call 126;rw[s.2.2.1];(with_reducible refine U.mono ?_);rintro e u⟨m,E,rfl,R,x⟩;clear U))
 have F:u.heap[d+1+1]?=some (.cells #[.int .i64 0,.int .i64 0,.int .i64 0] 146):=(x.block _ (by have:=s.2.1;omega)).trans HR.out;have hM:u.heap[d]?=some (.cells #[.slice p n f] 102):=(x.block _ (by have:=s.2.1;omega)).trans Z.out;have I:Below W.heap.size W u:=aB s.1 x;have J:=HV.out.later I;rw[<-s.2.2.2.1]at E
 have S:=aa (show m<=l.length/\∀j,j<n->(j<m↔q j=true)from⟨E,fun j Y=>by
  rw[R j Y];cases q j <;> simp⟩)
 have e0:=aA F 0;have e1:=aA F 1;have e2:=aA F 2;have f0:=zo u (d+1+1) 0 _ _ F;have f1:=zo u (d+1+1) 1 _ _ F;have f2:=zo u (d+1+1) 2 _ _ F;have a4:d+1+1<u.heap.size:=aC F
 have G:∀a b c:Value,Below W.heap.size W (((u.setCell ⟨d+1+1,0,none⟩ a).setCell ⟨d+1+1,1,none⟩ b).setCell ⟨d+1+1,2,none⟩ c):=fun a b c =>
  ((I.setCell (by rw[s.2.2.2.2];simp;omega) a).setCell (by rw[s.2.2.2.2];simp;omega) b).setCell (by rw[s.2.2.2.2];simp;omega) c
 have Q:=aa G;have m0:=aA hM 0;have s0:=(fun a=>wq u ⟨d+1+1,0,none⟩ a e0);have s1:=(fun a b=>wq (u.setCell ⟨d+1+1,0,none⟩ a) ⟨d+1+1,1,none⟩ b ((xu _ _ _ _ (by simp)).trans e1));have s2:=(fun a b c=>wq ((u.setCell ⟨d+1+1,0,none⟩ a).setCell ⟨d+1+1,1,none⟩ b) ⟨d+1+1,2,none⟩ c ((xu _ _ _ _ (by simp)).trans ((xu _ _ _ _ (by simp)).trans e2)));have o:=aa (ab s0 (ab s1 s2));clear s0 s1 s2;clear F hM I R x G;cases m with
 | zero =>
  clear J E;go_wp2_with fail;refine ya (v:=(.agg #[.int .i64 0,.int .i64 0,.int .i64 0])) (by simp[results,results90,go_sem,o.1,o.2.1,o.2.2]) rfl ?_;exact⟨0,S.1,rfl,by rw[s.2.2.2.1];exact S.2,Q.out _ _ _⟩
 | succ m =>
  have P:=gV l m E;obtain⟨g,rfl,hg,c0,c1,c2⟩:=J.run E;have a5:¬ ((m:Int)+1=0):=(by omega);have a2:(((m+1:Nat):Int)==0)=false:=(by simp;omega);have a6:(m:Int)<(n:Int):=(by have:=s.2.2.2.1;omega);have a7:m<n:=(by have:=s.2.2.2.1;omega);have HL:=aa P;generalize ((els (l.take m)).length:Int)=c at c2 HL;obtain⟨r,hr⟩:=ag (l[m]);rw[hr]at c0 c1 HL;clear P J E hr;go_wp2_with fail;refine ya (v:=(.agg #[.int .i64 r.1,.int .i64 r.2,.int .i64 c])) (by simp[results,results90,go_sem,o.1,o.2.1,o.2.2]) rfl ?_;exact⟨m+1,S.1,by rw[HL.out],by rw[s.2.2.2.1];exact S.2,Q.out _ _ _⟩
theorem Fv{l:List R2}(h:Nrm l){m:Nat}(hm:m<=l.length):0<=(ku l m).1/\(ku l m).1<=(ku l m).2.1/\(ku l m).2.1<=65536/\0<=(ku l m).2.2/\(ku l m).2.2<=65536:=by
 cases m with
 | zero=>show(0:Int)<=0/\(0:Int)<=0/\(0:Int)<=65536/\(0:Int)<=0/\(0:Int)<=65536;omega
 | succ m =>
  rw[gV l m (by omega)];have b:=h.2 l[m] (z8 _)
  have a:Nrm (l.take m):=by
   have:Nrm (l.take m++l.drop m):=(by rw[uo];exact h);exact this.left
  have c:=zI a;show 0<=l[m].1/\l[m].1<=l[m].2/\l[m].2<=65536/\(0:Int)<=((els (l.take m)).length:Int)/\((els (l.take m)).length:Int)<=65536;omega
theorem aH{a b:Bool}(h:a=b):Ending.returned (.bool a)=.returned (.bool b):=by rw[h]
theorem aQ{a b:Int}(h:a=b):Ending.returned (.int .i64 a)=.returned (.int .i64 b):=by rw[h]
theorem jT{x:World}{b:Nat}{a0 a1 a2:Value}{t:TypeId}(h:x.heap[b]?=some (.cells #[a0,a1,a2] t))(a c d:Value):(((x.setCell ⟨b,0,none⟩ a).setCell ⟨b,1,none⟩ c).setCell ⟨b,2,none⟩ d).heap[b]?=some (.cells #[a,c,d] t):=by
 rw[y9 _ b 2 #[a,c,a2] t d (y9 _ b 1 #[a,a1,a2] t c (y9 _ b 0 #[a0,a1,a2] t a h))];rfl
theorem bB{l:List R2}{v:Value}{W:World}(hl:Nrm l)(hv:Mv W v l):Calls prog 53 #[.agg #[v]] W fun e n=>e=.returned (.int .i64 ((els l).length:Int))/\Below W.heap.size W n:=by
 have b:=wR hl;have c:=Fv hl (zm _);have d:=aD W (.cells #[v] 102)
 have f:=Ez (D:=0) (W0:=W.alloc (.cells #[v] 102)) (W:=W.alloc (.cells #[v] 102)) (fv:=.func (.func 91) #[] #[]) (q:=fun _=>true) hl (hv.later d) (zb 0 _) (zh _)
  ⟨91,#[],rfl,by intro a w;rfl,fun w j t _=>wT _ _ _ w⟩ (fun _ _ _ _ _=>rfl)
 obtain⟨p,o,rfl,_,_⟩:=hv.slice;clear hv hl;generalize ((els l).length:Int)=z at b ⊢;go_enter func53,ntmps53;go_upto_region 1 with fail
 go_wp2_with (first|(go_at_call 90;refine f.mono ?_;rintro e u⟨m,g,rfl,i,k⟩;have g:m=l.length:=(v6 m l.length).elim (fun h=>absurd ((i m h).2 rfl) (ub m)) (fun h=>by omega);subst g;clear i f;generalize ku l l.length=r at b c ⊢;have s:=aa b;clear b))
 go_ret;exact⟨by rw[s.out];rfl,(aB d k).alloc (by have:=(aB d k).size;omega) _⟩
def Mk(W:World)(mb:Nat)(v:Value)(l:List R2):Prop:=Cell W mb v/\ac W (mb+1) 146 3 v l.length (fw (mk l))
theorem Mk.lt{W:World}{mb:Nat}{v:Value}{l:List R2}(h:Mk W mb v l):mb<W.heap.size:=h.1.lt
theorem ac.mono{w:World}{base base':Nat}{e:TypeId}{size:Nat}{v:Value}{n:Nat}{xs:List Value}(h:ac w base e size v n xs)(hb:base'<=base):ac w base' e size v n xs:=by
 refine⟨h.1,?_⟩;rcases h.2 with c|⟨g,a,b,d,f,rest⟩
 ·exact .inl c
 exact .inr ⟨g,a,b,d,zw hb f,rest⟩
theorem Mk.mv{W:World}{mb:Nat}{v:Value}{l:List R2}(h:Mk W mb v l):Mv W v l:=ac.mono h.2 (zh _)
theorem Mk.of{W W':World}{mb:Nat}{v:Value}{l:List R2}(h:Mk W mb v l)(hb:∀b,mb<=b->b<W.heap.size->(b=mb∨v.ownBlock=some b)->W'.heap[b]?=W.heap[b]?):Mk W' mb v l:=
 ⟨h.1.of (hb mb (zm _) h.lt (.inl rfl)),h.2.of (fun k a=>by have:=h.2.lt k a;exact hb k (by omega) this.2 (.inr a))⟩
theorem Mk.later{W W':World}{mb:Nat}{v:Value}{l:List R2}(h:Mk W mb v l)(hb:Below W.heap.size W W'):Mk W' mb v l:=h.of (fun b _ a _=>hb.block b a)
def Added(W:World)(mb:Nat)(v:Value)(l:List R2)(f t:Int)(e:Ending)(W':World):Prop:=e=.returned (.tuple #[])/\∃v',Mk W' mb v' (ji l f t)/\Chg (fun b=>b=mb∨v.ownBlock=some b) W W'/\∀q,v'.ownBlock=some q->v.ownBlock=some q∨W.heap.size<=q
theorem Kf{W:World}{mb:Nat}{v:Value}{l:List R2}{f t:Int}(h:Mk W mb v l)(a:¬ f<t):Calls prog 125 #[.pointer (some ⟨mb,0,none⟩),.int .i64 f,.int .i64 t] W (Added W mb v l f t):=by
 have e:=lO (l:=l) a;have a:t<=f:=(by omega);go_enter func125,ntmps125
 go_wp2
 go_end0
 exact⟨rfl,v,by rw[e];exact h,Chg.refl _ _,fun q b=>.inl b⟩
theorem wV{W:World}{mb g cap:Nat}{k:List R2}{r:R2}{f t c:Int}(h:Mk W mb (.slice (some ⟨g,0,none⟩) (k.length+1) cap) (k++[r]))(hf:f<t)(ht:f<=r.2)(hc:c=max t r.2):Added W mb (.slice (some ⟨g,0,none⟩) (k.length+1) cap) (k++[r]) f t (.returned (.tuple #[])) (W.setCell ⟨g,k.length*3+1,none⟩ (.int .i64 c)).drew:=by
 have a:(k++[r]).length=k.length+1:=(by simp);have b:=h.2;rw[a]at b;obtain⟨s1,s2⟩:=b.stored (k.length*3+1) (.int .i64 c);have e:=sP (mk k) (r.1,r.2,((els k).length:Int)) c;rw[GX,<-qT]at e;have d:=qT k (r.1,max t r.2)
 have i:fw (mk (k++[(r.1,max t r.2)]))=(fw (mk (k++[r]))).set (k.length*3+1) (.int .i64 c):=by
  rw[e,d,hc]
 have l:=b.lt g rfl;refine⟨rfl,.slice (some ⟨g,0,none⟩) (k.length+1) cap,?_,((Chg.refl _ W).setCell (fun _=>.inr rfl) _).drew,fun q j=>.inl j⟩;rw[dS hf ht];refine⟨(h.1.of (uj _ _ _ _ (by show mb≠g;omega))).drew,?_⟩;rw[i,show(k++[(r.1,max t r.2)]).length=k.length+1 by simp];exact s1.later (zb _ _).drew
theorem Lo{W:World}{mb:Nat}{v:Value}{k:List R2}{r:R2}{f t:Int}(h:Mk W mb v (k++[r]))(hf:f<t)(j:f<=r.2)(hk:k.length<=65536):Calls prog 125 #[.pointer (some ⟨mb,0,none⟩),.int .i64 f,.int .i64 t] W (Added W mb v (k++[r]) f t):=by
 have e:=dS (k:=k) hf j;have d:(k++[r]).length=k.length+1:=(by simp);have i:=h.2;rw[d]at i;obtain⟨g,q,rfl,m,s⟩:=i.slice (by omega);have z:=i.lt g rfl;obtain⟨c0,c1,c2⟩:=pC (mk (k++[r])) k.length _ (wQ (k++[r]) k.length (by simp));have c1:=i.cell c1;have u:=i.frozenAt (k.length*3+1);simp at c1;have w:=h.1.1;have p:=(fun(c:Int) (m:c=max t r.2)=>wV h hf j m);have l:=aa p;obtain⟨n,o⟩:=ag k.length;rw[o]at hk c1 u m w l;rw[o];obtain⟨a,b⟩:=r;have c1:W.cell? ⟨g,n*3+1,none⟩=some (.int .i64 b):=c1;have j:f<=b:=j;have A:(n:Int)<(n:Int)+1:=(by omega);have B:n<n+1:=(by omega);have E:(n:Int)<((n+1:Nat):Int):=(by omega);clear p o h d i e c0 c2;rcases Int.lt_or_le t b with x|x
 ·have y:¬ b<t:=(by omega);go_enter func125,ntmps125;go_wp2_with fail
  go_region_law (fail)
  all_goals
   go_wp2_with fail
   go_end0
   exact l.out b (by show b=max t b;omega)
 have y:¬ t<b:=(by omega);go_enter func125,ntmps125;go_wp2_with fail
 go_region_law (fail)
 all_goals
  go_wp2_with fail
  go_end0
  first|exact l.out t (by show t=max t b;omega) | (have e:t=b:=by omega;subst e;exact l.out t (by show t=max t t;omega))
