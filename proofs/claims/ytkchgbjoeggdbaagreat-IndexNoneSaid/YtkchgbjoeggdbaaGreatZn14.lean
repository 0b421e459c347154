import Derived.Test.YtkchgbjoeggdbaaGreatZn2
import Derived.Test.YtkchgbjoeggdbaaGreatZn7
import Derived.Test.YtkchgbjoeggdbaaGreatZn13
set_option maxHeartbeats 1000000
set_option maxRecDepth 100000
namespace Go.Proofs.YtkchgbjoeggdbaaGreat
open Go.Proofs.Tryz
open Go Go.RowKit Go.Proofs
def fa(l:List R3):List Value:=l.flatMap fun x=>[.int .i64 x.1,.int .i64 x.2.1,.int .i64 x.2.2]
theorem dR(xs ys:List R3):fa (xs++ys)=fa xs++fa ys:=by simp[fa]
theorem fA(x:R3)(r:List R3):fa (x::r)=.int .i64 x.1::.int .i64 x.2.1::.int .i64 x.2.2::fa r:=by simp[fa]
theorem lT(xs:List R3):(fa xs).length=xs.length*3:=by
 induction xs with
 | nil=>rfl
 | cons x r ih=>rw[fA,xa,xa,xa,xa,ih];omega
theorem oB(xs:List R3)(i:Nat)(x:R3)(h:xs[i]?=some x):(fa xs)[i*3]?=some (.int .i64 x.1)/\(fa xs)[i*3+1]?=some (.int .i64 x.2.1)/\(fa xs)[i*3+2]?=some (.int .i64 x.2.2):=by
 induction xs generalizing i with
 | nil=>simp at h
 | cons y r ih =>
  cases i with
  | zero=>simp at h;subst h;simp[fA]
  | succ i =>
   have:=ih i (by simpa using h)
   rw[fA,show(i+1)*3=i*3+1+1+1 by omega,show i*3+1+1+1+1=i*3+1+1+1+1 by omega];simp only[dz];exact this
theorem rK(xs:List R3)(x:R3)(b:Int):(fa (xs++[x])).set (xs.length*3+1) (.int .i64 b)=fa (xs++[(x.1,b,x.2.2)]):=by
 rw[dR,dR,List.set_append_right _ _ (by rw[lT];omega),lT,show xs.length*3+1-xs.length*3=1 by omega];simp[fa]
def Mv(W:World)(v:Value)(l:List R2):Prop:=ac W 0 81 3 v l.length (fa (mk l))
theorem Mv.later{W W':World}{v:Value}{l:List R2}(h:Mv W v l)(hb:Below W.heap.size W W'):Mv W' v l:=ac.later h hb
theorem Mv.nil(W:World):Mv W (.slice none 0 0) []:=ac.nil
theorem Mv.slice{W:World}{v:Value}{l:List R2}(h:Mv W v l):∃p a,v=.slice p l.length a/\l.length<=a/\a<=maxLen:=ac.isslice h
theorem Mv.run{W:World}{p:Option Addr}{cap:Nat}{l:List R2}(h:Mv W (.slice p l.length cap) l){j:Nat}(hj:j<l.length):∃g,p=some ⟨g,0,none⟩/\g<W.heap.size/\W.cell? ⟨g,j*3,none⟩=some (.int .i64 (l[j].1))/\W.cell? ⟨g,j*3+1,none⟩=some (.int .i64 (l[j].2))/\W.cell? ⟨g,j*3+2,none⟩=some (.int .i64 (((els (l.take j)).length:Nat):Int)):=by
 obtain⟨g,a,e,_,_⟩:=ac.slice h (by omega);cases e;obtain⟨c0,c1,c2⟩:=oB (mk l) j _ (vA l j hj);exact⟨g,rfl,(ac.lt h g rfl).2,ac.cell h c0,ac.cell h c1,ac.cell h c2⟩
def Fst(D:Nat)(W0:World)(fv:Value)(l:List R2)(p:Nat->Bool):Prop:=∃(g:Nat) (lb:Array Value),fv=.func (.func g) #[] lb/\(∀a w,(callFunc g a).run prog w=.ok (.enter g a) w)/\∀w j (h:j<l.length),Below D W0 w->Calls prog g (#[.agg #[.int .i64 (l[j].1),.int .i64 (l[j].2),.int .i64 ((els (l.take j)).length:Int)]]++lb) w fun e w'=>e=.returned (.bool (p j))/\Below w.heap.size w w'
theorem vD(f t c:Int)(W:World):Calls prog 29 #[.agg #[.int .i64 f,.int .i64 t,.int .i64 c]] W fun e a=>e=.returned (.bool true)/\Below W.heap.size W a:=by
 go_enter func29,ntmps29
 go_wp2
 go_ret;exact⟨rfl,aD W _⟩
theorem aK{W w1:World}{p:Addr}{v:Value}(hb:Below W.heap.size W w1)(h:W.cell? p=some v):w1.cell? p=some v:=
 (ze (w:=W) (hb.block _ (xh W p h))).trans h
theorem zJ{D:Nat}{W0 W:World}{fv:Value}{l:List R2}{q:Nat->Bool}{fb mb cap:Nat}{p:Option Addr}(hF:Fst D W0 fv l q)(hD:Below D W0 W)(hDW:D<=W.heap.size)(hf:W.cell? ⟨fb,0,none⟩=some fv)(hm:W.cell? ⟨mb,0,none⟩=some (.slice p l.length cap))(hv:Mv W (.slice p l.length cap) l)(j:Nat)(hj:j<l.length):Calls prog 70 #[.int .i64 (j:Int),.pointer (some ⟨fb,0,none⟩),.pointer (some ⟨mb,0,none⟩)] W fun e k=>e=.returned (.bool (!(q j)))/\Below W.heap.size W k:=by
 obtain⟨g,rfl,o,c0,c1,c2⟩:=hv.run hj;obtain⟨m,lb,rfl,h,f⟩:=hF;have d:=f W.drew j hj (hD.trans ((zg _ W).drew.mono hDW));clear hv f;generalize q j=b at d ⊢;obtain⟨n,i⟩:=ae l.length;simp only[i]at hm hj;generalize l[j]=r at d c0 c1;generalize ((els (l.take j)).length:Int)=c at d c2;clear i;go_enter func70,ntmps70;go_wp2_with fail
 go_region_held3 (fun w=>w.cell? ⟨fb,0,none⟩=some (.func (.func m) #[] lb)/\w.cell? ⟨mb,0,none⟩=some (.slice (some ⟨g,0,none⟩) n cap)/\w.cell? ⟨g,j*3,none⟩=some (.int .i64 r.1)/\w.cell? ⟨g,j*3+1,none⟩=some (.int .i64 r.2)/\w.cell? ⟨g,j*3+2,none⟩=some (.int .i64 c)) (first|exact⟨hf,hm,c0,c1,c2⟩ | exact⟨aK a hf,aK a hm,aK a c0,aK a c1,aK a c2⟩) (first | ((with_reducible refine d.mono ?_);rintro e s⟨rfl,a⟩))
 go_wp2_with fail;go_ret;exact⟨rfl,(zg _ W).drew.trans a⟩
def Found(n:Nat)(q:Nat->Bool)(W:World)(e:Ending)(w':World):Prop:=∃m:Nat,m<=n/\e=.returned (.int .i64 (m:Int))/\(∀j,j<n->(j<m↔q j=false))/\Below W.heap.size W w'
theorem vE{D n:Nat}{W0 W:World}{fv:Value}{q:Nat->Bool}(hn:n<=65536)(hmono:∀j k,j<=k->k<n->q j=true->q k=true)(hD:Below D W0 W)(hDW:D<=W.heap.size)(hF:∃(g:Nat) (lb:Array Value),fv=.func (.func g) #[] lb/\(∀a w,(callFunc g a).run prog w=.ok (.enter g a) w)/\∀w j,j<n->Below D W0 w->Calls prog g (#[.int .i64 (j:Int)]++lb) w fun e B=>e=.returned (.bool (q j))/\Below w.heap.size w B):Calls prog 69 #[.int .i64 (n:Int),fv] W (Found n q W):=by
 obtain⟨L,lb,rfl,v,c⟩:=hF;have x:=aa hmono;have E:=aa c;clear hmono c;go_enter func69,ntmps69;go_wp2_with fail;go_loopg [5,6] n (fun F iv G w=>∃i j:Nat,i<=j/\j<=n/\j<=i+F/\iv=.int .i64 (i:Int)/\G=.int .i64 (j:Int)/\(∀k,k<i->q k=false)/\(∀k,j<=k->k<n->q k=true)/\Below W.heap.size W w)
 case atStart=>exact⟨0,n,zj _,zo _,by omega,rfl,rfl,fun k h=>absurd h (yh k),fun k h r=>by omega,zg _ _⟩
 obtain⟨i,j,H,s,M,rfl,rfl,r,y,m⟩:=hrel;have o:=aa (ab r y);clear r y;by_cases t:i<j
 ·obtain⟨h,N⟩:=ae ((i+j) / 2);have u:=E.out wr h (by omega) (hD.trans (m.mono hDW));obtain⟨b,f⟩:=ae (q h);rw[f]at u;have z:=aa f;clear f;go_upto_region 4 with fail;rw[show((i:Int)+(j:Int)) / 2=(h:Int)by omega];cases b
  ·go_wp2_with ((with_reducible refine u.mono ?_);rintro e I⟨rfl,l⟩);go_roundg (j-(h+1))
   case measure=>omega
   refine⟨h+1,j,by omega,s,by omega,by go_num,rfl,fun k A=>?_,o.2,aC m l⟩;rcases Bool.eq_false_or_eq_true (q k)with d|d
   ·have:=x.out k h (by omega) (by omega) d
    rw[z.out]at this;exact absurd this (by decide)
   exact d
  go_wp2_with ((with_reducible refine u.mono ?_);rintro e I⟨rfl,l⟩);go_roundg (h-i)
  case measure=>omega
  exact⟨i,h,by omega,by omega,by omega,rfl,rfl,o.1,fun k d p=>x.out h k d p z.out,aC m l⟩
 have J:=aa (show i=j by omega);have O:¬ (i:Int)<(j:Int):=(by omega);clear t;go_wp2_with fail;go_ret;refine⟨i,by omega,rfl,fun k A=>⟨o.1 k,fun d=>?_⟩,m⟩;rcases wm k i with p|p
 ·exact p
 rw[o.2 k (by have:=J.out;omega) A]at d;cases d
def AR(l:List R2)(q:Nat->Bool)(W:World)(e:Ending)(w':World):Prop:=∃m:Nat,m<=l.length/\e=.returned (.agg #[.int .i64 ((je l m).1),.int .i64 ((je l m).2.1),.int .i64 ((je l m).2.2)])/\(∀j,j<l.length->(j<m↔q j=true))/\Below W.heap.size W w'
theorem rL{D:Nat}{W0 W:World}{v fv:Value}{l:List R2}{q:Nat->Bool}(hl:Nrm l)(hv:Mv W v l)(hD:Below D W0 W)(hDW:D<=W.heap.size)(hF:Fst D W0 fv l q)(hmono:∀j k,j<=k->k<l.length->q k=true->q j=true):Calls prog 28 #[.agg #[v],fv] W (AR l q W):=by
 have A:=dA hl;obtain⟨p,f,rfl,hc,a3⟩:=hv.slice;have HV:=aa hv;obtain⟨H,lb,rfl,a0,a1⟩:=id hF;have Q:=aa hF;obtain⟨d,t⟩:=ae W.heap.size;obtain⟨B,i⟩:=ae (((W.alloc (.cells #[.slice p l.length f] 29)).alloc (.cells #[.func (.func H) #[] lb] 83)).alloc (.cells #[.int .i64 0,.int .i64 0,.int .i64 0] 81));have y:Below W.heap.size W B:=(by rw[<-i];exact(((aD W _).alloc (by simp) _).alloc (by simp;omega) _));have z:B.heap[d]?=some (.cells #[.slice p l.length f] 29):=by rw[<-i,<-t];exact((aD ((W.alloc (.cells #[.slice p l.length f] 29)).alloc (.cells #[.func (.func H) #[] lb] 83)) _).block _ (by simp;omega)).trans (((aD (W.alloc (.cells #[.slice p l.length f] 29)) _).block _ (by simp)).trans (z7 W _))
 have L:B.heap[d+1]?=some (.cells #[.func (.func H) #[] lb] 83):=by
  have h:=z7 (W.alloc (.cells #[.slice p l.length f] 29)) (.cells #[.func (.func H) #[] lb] 83);rw[zm,t]at h;rw[<-i];exact((aD ((W.alloc (.cells #[.slice p l.length f] 29)).alloc (.cells #[.func (.func H) #[] lb] 83)) _).block _ (by simp;omega)).trans h
 have M:B.heap[d+1+1]?=some (.cells #[.int .i64 0,.int .i64 0,.int .i64 0] 81):=by
  have h:=z7 ((W.alloc (.cells #[.slice p l.length f] 29)).alloc (.cells #[.func (.func H) #[] lb] 83)) (.cells #[.int .i64 0,.int .i64 0,.int .i64 0] 81);rw[zm,zm,t]at h;rw[<-i];exact h
 have N:B.heap.size=d+3:=(by rw[<-i,<-t];simp);have h0:=aA z 0;have h1:=aA L 0
 have U:=vE (W:=B) (fv:=.func (.func 70) #[] #[.pointer (some ⟨d+1,0,none⟩),.pointer (some ⟨d,0,none⟩)]) (q:=fun j=>!(q j)) A (fun j k V hk R=>by
   rcases Bool.eq_false_or_eq_true (q k)with X|X
   ·have:=hmono j k V hk X
    simp[this]at R
   ·simp[X]) (zg B.heap.size B) (zo _) ⟨70,_,rfl,by intro a w;rfl,fun w j Y x=>by
   have hf:w.cell? ⟨d+1,0,none⟩=some (.func (.func H) #[] lb):=aK x h1;have E:w.cell? ⟨d,0,none⟩=some (.slice p l.length f):=aK x h0;exact zJ Q.out (hD.trans ((y.mono hDW).trans (x.mono (by omega)))) (by have:=x.size;omega) hf E (HV.out.later (aC y x)) j Y⟩
 have HM:=aa hmono;obtain⟨n,O⟩:=ae l.length;rw[O]at U i A;have s:=aa (ab y (ab N (ab i (ab O t))));have HR:=aa M;rw[O]at z;have Z:=aa z;simp only[O];clear i y N z L M h0 h1 hmono hv hF O;go_enter func28,ntmps28
 go_upto_region 2 with (first|(go_at_call 69;rw[s.2.2.1];(with_reducible refine U.mono ?_);rintro e u⟨m,E,rfl,R,x⟩;clear U))
 have F:u.heap[d+1+1]?=some (.cells #[.int .i64 0,.int .i64 0,.int .i64 0] 81):=(x.block _ (by have:=s.2.1;omega)).trans HR.out;have hM:u.heap[d]?=some (.cells #[.slice p n f] 29):=(x.block _ (by have:=s.2.1;omega)).trans Z.out;have I:Below W.heap.size W u:=aC s.1 x;have J:=HV.out.later I;rw[<-s.2.2.2.1]at E
 have S:=aa (show m<=l.length/\∀j,j<n->(j<m↔q j=true)from⟨E,fun j Y=>by
  rw[R j Y];cases q j <;> simp⟩)
 have e0:=aA F 0;have e1:=aA F 1;have e2:=aA F 2;have f0:=zq u (d+1+1) 0 _ _ F;have f1:=zq u (d+1+1) 1 _ _ F;have f2:=zq u (d+1+1) 2 _ _ F;have a4:d+1+1<u.heap.size:=aB F
 have G:∀a b c:Value,Below W.heap.size W (((u.setCell ⟨d+1+1,0,none⟩ a).setCell ⟨d+1+1,1,none⟩ b).setCell ⟨d+1+1,2,none⟩ c):=fun a b c =>
  ((I.setCell (by rw[s.2.2.2.2];simp;omega) a).setCell (by rw[s.2.2.2.2];simp;omega) b).setCell (by rw[s.2.2.2.2];simp;omega) c
 have Q:=aa G;have m0:=aA hM 0;have s0:=(fun a=>wi u ⟨d+1+1,0,none⟩ a e0);have s1:=(fun a b=>wi (u.setCell ⟨d+1+1,0,none⟩ a) ⟨d+1+1,1,none⟩ b ((xm _ _ _ _ (by simp)).trans e1));have s2:=(fun a b c=>wi ((u.setCell ⟨d+1+1,0,none⟩ a).setCell ⟨d+1+1,1,none⟩ b) ⟨d+1+1,2,none⟩ c ((xm _ _ _ _ (by simp)).trans ((xm _ _ _ _ (by simp)).trans e2)));have o:=aa (ab s0 (ab s1 s2));clear s0 s1 s2;clear F hM I R x G;cases m with
 | zero =>
  clear J E;go_wp2_with fail;refine y8 (v:=(.agg #[.int .i64 0,.int .i64 0,.int .i64 0])) (by simp[results,results28,go_sem,o.1,o.2.1,o.2.2]) rfl ?_;exact⟨0,S.1,rfl,by rw[s.2.2.2.1];exact S.2,Q.out _ _ _⟩
 | succ m =>
  have P:=eI l m E;obtain⟨g,rfl,hg,c0,c1,c2⟩:=J.run E;have a5:¬ ((m:Int)+1=0):=(by omega);have a2:(((m+1:Nat):Int)==0)=false:=(by simp;omega);have a6:(m:Int)<(n:Int):=(by have:=s.2.2.2.1;omega);have a7:m<n:=(by have:=s.2.2.2.1;omega);have HL:=aa P;generalize ((els (l.take m)).length:Int)=c at c2 HL;obtain⟨r,hr⟩:=ae (l[m]);rw[hr]at c0 c1 HL;clear P J E hr;go_wp2_with fail;refine y8 (v:=(.agg #[.int .i64 r.1,.int .i64 r.2,.int .i64 c])) (by simp[results,results28,go_sem,o.1,o.2.1,o.2.2]) rfl ?_;exact⟨m+1,S.1,by rw[HL.out],by rw[s.2.2.2.1];exact S.2,Q.out _ _ _⟩
theorem EA{l:List R2}(h:Nrm l){m:Nat}(hm:m<=l.length):0<=(je l m).1/\(je l m).1<=(je l m).2.1/\(je l m).2.1<=65536/\0<=(je l m).2.2/\(je l m).2.2<=65536:=by
 cases m with
 | zero=>show(0:Int)<=0/\(0:Int)<=0/\(0:Int)<=65536/\(0:Int)<=0/\(0:Int)<=65536;omega
 | succ m =>
  rw[eI l m (by omega)];have b:=h.2 l[m] (z8 _)
  have a:Nrm (l.take m):=by
   have:Nrm (l.take m++l.drop m):=(by rw[uc];exact h);exact this.left
  have c:=xP a;show 0<=l[m].1/\l[m].1<=l[m].2/\l[m].2<=65536/\(0:Int)<=((els (l.take m)).length:Int)/\((els (l.take m)).length:Int)<=65536;omega
theorem lU{W w:World}{b:Nat}{o:Obj}(hb:Below W.heap.size W w)(h:W.heap[b]?=some o):w.heap[b]?=some o:=(hb.block _ (aB h)).trans h
theorem aH{a b:Bool}(h:a=b):Ending.returned (.bool a)=.returned (.bool b):=by rw[h]
theorem aP{a b:Int}(h:a=b):Ending.returned (.int .i64 a)=.returned (.int .i64 b):=by rw[h]
theorem C5{p:Prop}[Decidable p]{b:Bool}(h:p↔b=true):decide p=b:=by
 rw[wu,xz];exact h
theorem gD{x:World}{b:Nat}{a0 a1 a2:Value}{t:TypeId}(h:x.heap[b]?=some (.cells #[a0,a1,a2] t))(a c d:Value):(((x.setCell ⟨b,0,none⟩ a).setCell ⟨b,1,none⟩ c).setCell ⟨b,2,none⟩ d).heap[b]?=some (.cells #[a,c,d] t):=by
 rw[y7 _ b 2 #[a,c,a2] t d (y7 _ b 1 #[a,a1,a2] t c (y7 _ b 0 #[a0,a1,a2] t a h))];rfl
theorem ax{l:List R2}{v:Value}{W:World}(hl:Nrm l)(hv:Mv W v l):Calls prog 9 #[.agg #[v]] W fun e n=>e=.returned (.int .i64 ((els l).length:Int))/\Below W.heap.size W n:=by
 have b:=vC hl;have c:=EA hl (zo _);have d:=aD W (.cells #[v] 29)
 have f:=rL (D:=0) (W0:=W.alloc (.cells #[v] 29)) (W:=W.alloc (.cells #[v] 29)) (fv:=.func (.func 29) #[] #[]) (q:=fun _=>true) hl (hv.later d) (zg 0 _) (zj _)
  ⟨29,#[],rfl,by intro a w;rfl,fun w j t _=>vD _ _ _ w⟩ (fun _ _ _ _ _=>rfl)
 obtain⟨p,o,rfl,_,_⟩:=hv.slice;clear hv hl;generalize ((els l).length:Int)=z at b ⊢;go_enter func9,ntmps9;go_upto_region 1 with fail
 go_wp2_with (first|(go_at_call 28;refine f.mono ?_;rintro e u⟨m,g,rfl,i,k⟩;have g:m=l.length:=(wm m l.length).elim (fun h=>absurd ((i m h).2 rfl) (vu m)) (fun h=>by omega);subst g;clear i f;generalize je l l.length=r at b c ⊢;have s:=aa b;clear b))
 go_ret;exact⟨by rw[s.out];rfl,(aC d k).alloc (by have:=(aC d k).size;omega) _⟩
theorem Hh(W:World)(v:Value)(i:Int):Below W.heap.size W ((W.alloc (.cells #[v] 29)).alloc (.cells #[.int .i64 i] 3))/\((W.alloc (.cells #[v] 29)).alloc (.cells #[.int .i64 i] 3)).heap[W.heap.size+1]?=some (.cells #[.int .i64 i] 3):=by
 refine⟨(aD W _).alloc (by simp) _,?_⟩
 have:=z7 (W.alloc (.cells #[v] 29)) (.cells #[.int .i64 i] 3)
 rwa [zm]at this
def Mk(W:World)(mb:Nat)(v:Value)(l:List R2):Prop:=Cell W mb v/\ac W (mb+1) 81 3 v l.length (fa (mk l))
theorem Mk.lt{W:World}{mb:Nat}{v:Value}{l:List R2}(h:Mk W mb v l):mb<W.heap.size:=h.1.lt
theorem ac.mono{w:World}{base base':Nat}{e:TypeId}{size:Nat}{v:Value}{n:Nat}{xs:List Value}(h:ac w base e size v n xs)(hb:base'<=base):ac w base' e size v n xs:=by
 refine⟨h.1,?_⟩;rcases h.2 with c|⟨g,a,b,d,f,rest⟩
 ·exact .inl c
 exact .inr ⟨g,a,b,d,zx hb f,rest⟩
theorem Mk.mv{W:World}{mb:Nat}{v:Value}{l:List R2}(h:Mk W mb v l):Mv W v l:=ac.mono h.2 (zj _)
theorem Mk.of{W W':World}{mb:Nat}{v:Value}{l:List R2}(h:Mk W mb v l)(hb:∀b,mb<=b->b<W.heap.size->(b=mb∨v.ownBlock=some b)->W'.heap[b]?=W.heap[b]?):Mk W' mb v l:=
 ⟨h.1.of (hb mb (zo _) h.lt (.inl rfl)),h.2.of (fun k a=>by have:=h.2.lt k a;exact hb k (by omega) this.2 (.inr a))⟩
theorem Mk.later{W W':World}{mb:Nat}{v:Value}{l:List R2}(h:Mk W mb v l)(hb:Below W.heap.size W W'):Mk W' mb v l:=h.of (fun b _ a _=>hb.block b a)
def Added(W:World)(mb:Nat)(v:Value)(l:List R2)(f t:Int)(e:Ending)(W':World):Prop:=e=.returned (.tuple #[])/\∃v',Mk W' mb v' (jg l f t)/\Chg (fun b=>b=mb∨v.ownBlock=some b) W W'/\∀q,v'.ownBlock=some q->v.ownBlock=some q∨W.heap.size<=q
theorem GH{W:World}{mb:Nat}{v:Value}{l:List R2}{f t:Int}(h:Mk W mb v l)(a:¬ f<t):Calls prog 68 #[.pointer (some ⟨mb,0,none⟩),.int .i64 f,.int .i64 t] W (Added W mb v l f t):=by
 have e:=kV (l:=l) a;have a:t<=f:=(by omega);go_enter func68,ntmps68
 go_wp2
 go_end0
 exact⟨rfl,v,by rw[e];exact h,Chg.refl _ _,fun q b=>.inl b⟩
theorem vF{W:World}{mb g cap:Nat}{k:List R2}{r:R2}{f t c:Int}(h:Mk W mb (.slice (some ⟨g,0,none⟩) (k.length+1) cap) (k++[r]))(hf:f<t)(ht:f<=r.2)(hc:c=max t r.2):Added W mb (.slice (some ⟨g,0,none⟩) (k.length+1) cap) (k++[r]) f t (.returned (.tuple #[])) (W.setCell ⟨g,k.length*3+1,none⟩ (.int .i64 c)).drew:=by
 have a:(k++[r]).length=k.length+1:=(by simp);have b:=h.2;rw[a]at b;obtain⟨s1,s2⟩:=b.stored (k.length*3+1) (.int .i64 c);have e:=rK (mk k) (r.1,r.2,((els k).length:Int)) c;rw[Dt,<-pY]at e;have d:=pY k (r.1,max t r.2)
 have i:fa (mk (k++[(r.1,max t r.2)]))=(fa (mk (k++[r]))).set (k.length*3+1) (.int .i64 c):=by
  rw[e,d,hc]
 have l:=b.lt g rfl;refine⟨rfl,.slice (some ⟨g,0,none⟩) (k.length+1) cap,?_,((Chg.refl _ W).setCell (fun _=>.inr rfl) _).drew,fun q j=>.inl j⟩;rw[cZ hf ht];refine⟨(h.1.of (ua _ _ _ _ (by show mb≠g;omega))).drew,?_⟩;rw[i,show(k++[(r.1,max t r.2)]).length=k.length+1 by simp];exact s1.later (zg _ _).drew
theorem zK{W:World}{mb:Nat}{v:Value}{k:List R2}{r:R2}{f t:Int}(h:Mk W mb v (k++[r]))(hf:f<t)(j:f<=r.2)(hk:k.length<=65536):Calls prog 68 #[.pointer (some ⟨mb,0,none⟩),.int .i64 f,.int .i64 t] W (Added W mb v (k++[r]) f t):=by
 have e:=cZ (k:=k) hf j;have d:(k++[r]).length=k.length+1:=(by simp);have i:=h.2;rw[d]at i;obtain⟨g,q,rfl,m,s⟩:=i.slice (by omega);have z:=i.lt g rfl;obtain⟨c0,c1,c2⟩:=oB (mk (k++[r])) k.length _ (vA (k++[r]) k.length (by simp));have c1:=i.cell c1;have u:=i.frozenAt (k.length*3+1);simp at c1;have w:=h.1.1;have p:=(fun(c:Int) (m:c=max t r.2)=>vF h hf j m);have l:=aa p;obtain⟨n,o⟩:=ae k.length;rw[o]at hk c1 u m w l;rw[o];obtain⟨a,b⟩:=r;have c1:W.cell? ⟨g,n*3+1,none⟩=some (.int .i64 b):=c1;have j:f<=b:=j;have A:(n:Int)<(n:Int)+1:=(by omega);have B:n<n+1:=(by omega);have E:(n:Int)<((n+1:Nat):Int):=(by omega);clear p o h d i e c0 c2;rcases Int.lt_or_le t b with x|x
 ·have y:¬ b<t:=(by omega);go_enter func68,ntmps68;go_wp2_with fail
  go_region_law (fail)
  all_goals
   go_wp2_with fail
   go_end0
   exact l.out b (by show b=max t b;omega)
 have y:¬ t<b:=(by omega);go_enter func68,ntmps68;go_wp2_with fail
 go_region_law (fail)
 all_goals
  go_wp2_with fail
  go_end0
  first|exact l.out t (by show t=max t b;omega) | (have e:t=b:=by omega;subst e;exact l.out t (by show t=max t t;omega))
