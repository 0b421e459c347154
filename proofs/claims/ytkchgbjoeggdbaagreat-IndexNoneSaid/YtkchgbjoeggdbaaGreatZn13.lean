import Derived.Test.YtkchgbjoeggdbaaGreatZn1
import Init
namespace Go.Proofs.YtkchgbjoeggdbaaGreat
abbrev R2:=Int×Int
def mem(l:List R2)(x:Int):Prop:=∃r∈l,r.1<=x/\x<r.2
def Nrm(l:List R2):Prop:=l.Pairwise (fun r s=>r.2<s.1)/\∀r∈l,0<=r.1/\r.1<r.2/\r.2<=65536
theorem Nrm.nil:Nrm []:=⟨List.Pairwise.nil,fun r h=>by simp at h⟩
theorem eE(x:Int):¬ mem [] x:=fun⟨r,h,_⟩=>by simp at h
theorem mem_append(l m:List R2)(x:Int):mem (l++m) x↔mem l x∨mem m x:=by
 constructor
 ·rintro⟨r,h,k⟩;rcases List.mem_append.1 h with h|h
  ·exact .inl ⟨r,h,k⟩
  exact .inr ⟨r,h,k⟩
 rintro(⟨r,h,k⟩ | ⟨r,h,k⟩)
 ·exact⟨r,List.mem_append.2 (.inl h),k⟩
 exact⟨r,List.mem_append.2 (.inr h),k⟩
theorem fN(r:R2)(x:Int):mem [r] x↔r.1<=x/\x<r.2:=by
 constructor
 ·rintro⟨s,h,k⟩;rw[zz]at h;subst h;exact k
 exact fun h=>⟨r,by simp,h⟩
theorem mem_cons(r:R2)(l:List R2)(x:Int):mem (r::l) x↔(r.1<=x/\x<r.2)∨mem l x:=by
 have:=mem_append [r] l x
 rw[fN]at this;exact this
theorem Hr{l:List R2}(h:Nrm l){x:Int}(hx:mem l x):0<=x/\x<65536:=by
 obtain⟨r,a,b,c⟩:=hx
 have:=h.2 r a
 omega
theorem Nrm.left{l m:List R2}(h:Nrm (l++m)):Nrm l:=⟨(List.pairwise_append.1 h.1).1,fun r a=>h.2 r (List.mem_append.2 (.inl a))⟩
theorem Nrm.right{l m:List R2}(h:Nrm (l++m)):Nrm m:=⟨(List.pairwise_append.1 h.1).2.1,fun r a=>h.2 r (List.mem_append.2 (.inr a))⟩
theorem Nrm.gap{l m:List R2}(h:Nrm (l++m)):∀r∈l,∀s∈m,r.2<s.1:=(List.pairwise_append.1 h.1).2.2
theorem Nrm.mk{l m:List R2}(h:Nrm l)(k:Nrm m)(g:∀r∈l,∀s∈m,r.2<s.1):Nrm (l++m):=
 ⟨List.pairwise_append.2 ⟨h.1,k.1,g⟩,fun r a=>(List.mem_append.1 a).elim (h.2 r) (k.2 r)⟩
theorem Nrm.one{f t:Int}(h0:0<=f)(h1:f<t)(h2:t<=65536):Nrm [(f,t)]:=
 ⟨List.pairwise_singleton _ _,fun r a=>by rw[zz]at a;subst a;exact⟨h0,h1,h2⟩⟩
theorem eF{α:Type}(l:List α):l=[]∨∃k r,l=k++[r]:=by
 rcases List.eq_nil_or_concat l with h|⟨k,r,h⟩
 ·exact .inl h
 exact .inr ⟨k,r,by rw[h,List.concat_eq_append]⟩
def jg(l:List R2)(f t:Int):List R2:=
 if f<t then
  match l.getLast? with
  | some r=>if f<=r.2 then l.dropLast++[(r.1,max t r.2)]else l++[(f,t)]
  | none=>[(f,t)]
 else l
theorem kV{l:List R2}{f t:Int}(h:¬ f<t):jg l f t=l:=by unfold jg;rw[zu h]
theorem iB{f t:Int}(h:f<t):jg [] f t=[(f,t)]:=by unfold jg;rw[zw h];rfl
theorem cZ{k:List R2}{r:R2}{f t:Int}(h:f<t)(h1:f<=r.2):jg (k++[r]) f t=k++[(r.1,max t r.2)]:=by
 unfold jg;rw[zw h];simp[h1]
theorem eG{k:List R2}{r:R2}{f t:Int}(h:f<t)(h1:¬ f<=r.2):jg (k++[r]) f t=k++[r]++[(f,t)]:=by
 unfold jg;rw[zw h];simp only[List.getLast?_append,List.getLast?_singleton,Option.some_or,zu h1]
def Fits(l:List R2)(f t:Int):Prop:=f<t->0<=f/\t<=65536/\∀r∈l,r.1<=f
theorem iC{l:List R2}{f t:Int}(h:Nrm l)(k:Fits l f t):Nrm (jg l f t):=by
 by_cases b:f<t
 ·obtain⟨d,e,j⟩:=k b;rcases eF l with rfl|⟨l,r,rfl⟩
  ·rw[iB b];exact Nrm.one d b e
  have m:=h.2 r (by simp);have g:=h.gap;have n:=j r (by simp);by_cases i:f<=r.2
  ·rw[cZ b i];refine h.left.mk (Nrm.one m.1 (by omega) (by omega)) (fun q a s c=>?_);rw[zz]at c;subst c;exact g q a r (by simp)
  rw[eG b i];refine h.mk (Nrm.one d b e) (fun q a s c=>?_);rw[zz]at c;subst c;rcases List.mem_append.1 a with a|a
  ·have:=g q a r (by simp)
   show q.2<f;omega
  rw[zz]at a;subst a;show q.2<f;omega
 rw[kV b];exact h
theorem iD{l:List R2}{f t:Int}(h:Nrm l)(k:Fits l f t)(x:Int):mem (jg l f t) x↔mem l x∨(f<=x/\x<t):=by
 by_cases a:f<t
 ·obtain⟨e,g,c⟩:=k a;rcases eF l with rfl|⟨l,r,rfl⟩
  ·rw[iB a,fN]
   have:=eE x
   exact⟨fun h=>.inr h,fun h=>h.resolve_left this⟩
  have i:=h.2 r (by simp);have d:=c r (by simp);by_cases b:f<=r.2
  ·rw[cZ a b,mem_append,mem_append,fN,fN];have:(r.1<=x/\x<max t r.2)↔(r.1<=x/\x<r.2)∨(f<=x/\x<t):=(by omega);show mem l x∨(r.1<=x/\x<max t r.2)↔_;rw[this,or_assoc]
  rw[eG a b,mem_append,fN]
 rw[kV a];exact⟨fun h=>.inl h,fun h=>h.resolve_right (by omega)⟩
theorem jF{l:List R2}{f t g:Int}(h:∀r∈l,r.1<=g)(k:f<t->f<=g):∀r∈jg l f t,r.1<=g:=by
 by_cases b:f<t
 ·rcases eF l with rfl|⟨l,r,rfl⟩
  ·rw[iB b];intro q a;rw[zz]at a;subst a;exact k b
  by_cases c:f<=r.2
  ·rw[cZ b c];intro q a;rcases List.mem_append.1 a with a|a
   ·exact h q (by simp[a])
   rw[zz]at a;subst a;exact h r (by simp)
  rw[eG b c];intro q a;rcases List.mem_append.1 a with a|a
  ·exact h q a
  rw[zz]at a;subst a;exact k b
 rw[kV b];exact h
def rng(a b:Int):List Int:=(List.range (b-a).toNat).map (fun i:Nat=>a+(i:Int))
theorem iE{a b x:Int}:x∈rng a b↔a<=x/\x<b:=by
 unfold rng;rw[List.mem_map];constructor
 ·rintro⟨i,h,rfl⟩;rw[xd]at h;omega
 intro h;exact⟨(x-a).toNat,by rw[xd];omega,by omega⟩
theorem iG(a b:Int):(rng a b).length=(b-a).toNat:=by simp[rng]
theorem Fm{a b:Int}(h:b<=a):rng a b=[]:=by unfold rng;rw[show(b-a).toNat=0 by omega];rfl
theorem Dj{a b:Int}(h:a<b):rng a b=a::rng (a+1) b:=by
 unfold rng;rw[show(b-a).toNat=(b-(a+1)).toNat+1 by omega,List.range_succ_eq_map,List.map_cons,List.map_map]
 congr 1
 ·omega
 apply List.map_congr_left;intro i _;show a+((i+1:Nat):Int)=a+1+(i:Int);omega
theorem FX{a b:Int}{i:Nat}(h:i<(b-a).toNat):(rng a b)[i]?=some (a+(i:Int)):=by
 unfold rng;rw[xe,List.getElem?_range h];rfl
theorem xM(a b:Int):(rng a b).Pairwise (·<·):=by
 obtain⟨n,d⟩:=ae ((b-a).toNat)
 induction n generalizing a with
 | zero=>rw[Fm (by omega)];exact List.Pairwise.nil
 | succ n ih =>
  rw[Dj (by omega),wk];exact⟨fun x c=>by have:=(iE.1 c).1;omega,ih (a+1) (by omega)⟩
theorem xN{xs ys:List Int}(h:xs.Pairwise (·<·))(k:ys.Pairwise (·<·))(e:∀x,x∈xs↔x∈ys):xs=ys:=by
 induction xs generalizing ys with
 | nil =>
  cases ys with
  | nil=>rfl
  | cons y ys=>exact absurd ((e y).2 (by simp)) (by simp)
 | cons x xs ih =>
  cases ys with
  | nil=>exact absurd ((e x).1 (by simp)) (by simp)
  | cons y ys =>
   rw[wk]at h k
   have c:x=y:=by
    rcases List.mem_cons.1 ((e x).1 (by simp))with a|a
    ·exact a
    ·rcases List.mem_cons.1 ((e y).2 (by simp))with d|d
     ·exact d.symm
     ·have:=k.1 x a
      have:=h.1 y d
      omega
   subst c
   congr 1
   refine ih h.2 k.2 (fun z=>?_)
   have:=e z
   rw[xy,xy]at this;constructor
   ·intro b;have a:=h.1 z b;exact(this.1 (.inr b)).resolve_left (by omega)
   ·intro b;have a:=k.1 z b;exact(this.2 (.inr b)).resolve_left (by omega)
def els(l:List R2):List Int:=l.flatMap fun r=>rng r.1 r.2
theorem eH(l m:List R2):els (l++m)=els l++els m:=by simp[els]
theorem pV(r:R2):els [r]=rng r.1 r.2:=by simp[els]
theorem lP(r:R2)(l:List R2):els (r::l)=rng r.1 r.2++els l:=by simp[els]
theorem pW{l:List R2}{x:Int}:x∈els l↔mem l x:=by
 unfold els;rw[List.mem_flatMap];constructor
 ·rintro⟨r,h,k⟩;exact⟨r,h,iE.1 k⟩
 rintro⟨r,h,k⟩;exact⟨r,h,iE.2 k⟩
theorem xO{l:List R2}(h:Nrm l):(els l).Pairwise (·<·):=by
 induction l with
 | nil=>exact List.Pairwise.nil
 | cons r l ih =>
  have a:Nrm (([r]:List R2)++l):=h;rw[lP,List.pairwise_append];refine⟨xM _ _,ih a.right,fun x b y c=>?_⟩;obtain⟨s,d,e,_⟩:=pW.1 c
  have:=a.gap r (by simp) s d
  have:=(iE.1 b).2
  omega
def elems(P:Int->Bool):List Int:=(rng 0 65536).filter P
theorem zG{P:Int->Bool}{x:Int}:x∈elems P↔(0<=x/\x<65536)/\P x=true:=by
 unfold elems;rw[List.mem_filter,iE]
theorem zH(P:Int->Bool):(elems P).Pairwise (·<·):=(xM _ _).filter _
def Is(l:List R2)(P:Int->Bool):Prop:=∀x,mem l x↔P x=true
theorem Is.els{l:List R2}{P:Int->Bool}(h:Nrm l)(k:Is l P):els l=elems P:=
 xN (xO h) (zH P) (fun x=>by
  rw[pW,zG];constructor
  ·intro a;exact⟨Hr h a,(k x).1 a⟩
  ·exact fun a=>(k x).2 a.2)
def uh(xs:List Int):List R2:=xs.foldl (fun L x=>jg L x (x+1)) []
theorem Hl{l:List R2}(h:Nrm l):l.length<=(els l).length:=by
 induction l with
 | nil=>exact zj _
 | cons r l ih =>
  have a:Nrm (([r]:List R2)++l):=h;have b:=h.2 r (by simp)
  have:=ih a.right
  rw[lP,xa,y6,iG];omega
theorem zI(P:Int->Bool):(elems P).length<=65536:=by
 have:=List.length_filter_le P (rng 0 65536)
 rw[iG]at this;exact this
theorem xP{l:List R2}(h:Nrm l):(els l).length<=65536:=by
 have:Is l (fun x=>l.any fun r=>decide (r.1<=x/\x<r.2)):=(fun x=>by simp[mem]);rw[this.els h];exact zI _
theorem dA{l:List R2}(h:Nrm l):l.length<=65536:=zx (Hl h) (xP h)
end Go.Proofs.YtkchgbjoeggdbaaGreat
namespace Go.Proofs.YtkchgbjoeggdbaaGreat
abbrev R3:=Int×Int×Int
def te:Int->List R2->List R3
 | _,[]=>[]
 | c,r::l=>(r.1,r.2,c)::te (c+((rng r.1 r.2).length:Int)) l
def mk(l:List R2):List R3:=te 0 l
theorem pX(c:Int)(l:List R2):(te c l).length=l.length:=by
 induction l generalizing c with
 | nil=>rfl
 | cons r l ih=>rw[te,xa,xa,ih]
theorem Dt(l:List R2):(mk l).length=l.length:=pX 0 l
theorem lQ(c:Int)(l m:List R2):te c (l++m)=te c l++te (c+((els l).length:Int)) m:=by
 induction l generalizing c with
 | nil=>simp[els,te]
 | cons r l ih =>
  show(r.1,r.2,c)::te _ (l++m)=_;rw[ih,lP,y6,te,IV]
  congr 3
  omega
theorem pY(l:List R2)(r:R2):mk (l++[r])=mk l++[(r.1,r.2,((els l).length:Int))]:=by
 unfold mk;rw[lQ];simp[te]
theorem vA(l:List R2)(i:Nat)(h:i<l.length):(mk l)[i]?=some (l[i].1,l[i].2,((els (l.take i)).length:Int)):=by
 have e:l=l.take i++l[i]::l.drop (i+1):=(by rw[List.getElem_cons_drop,uc]);have a:(mk l)[i]?=(te 0 (l.take i++l[i]::l.drop (i+1)))[i]?:=(by rw[<-e];rfl);rw[a,lQ,ya (by rw[pX,xq];omega),pX,xq,show i-min i l.length=0 by omega];simp[te]
def je(l:List R2):Nat->R3
 | 0=>(0,0,0)
 | n+1=>(mk l).getD n (0,0,0)
theorem eI(l:List R2)(n:Nat)(h:n<l.length):je l (n+1)=(l[n].1,l[n].2,((els (l.take n)).length:Int)):=by
 show(mk l).getD n (0,0,0)=_;rw[zv,vA l n h];rfl
theorem vB(l:List R2)(n:Nat)(h:n<l.length):l=l.take n++([l[n]]++l.drop (n+1)):=by
 rw[List.singleton_append,List.getElem_cons_drop,uc]
theorem pZ{α:Type}{l:List α}{n:Nat}{x:α}(h:x∈l.drop n):∃(j:Nat) (_:j<l.length),n<=j/\l[j]=x:=by
 obtain⟨j,a,e⟩:=List.mem_iff_getElem.1 h;rw[vt]at a;exact⟨n+j,by omega,by omega,by rw[<-e,List.getElem_drop]⟩
theorem nZ{l:List R2}(h:Nrm l){i j:Nat}(hij:i<=j)(hj:j<l.length):l[i].1<=l[j].1:=by
 rcases wm i j with a|a
 ·have:=List.pairwise_iff_getElem.1 h.1 i j (by omega) hj a
  have:=(h.2 l[i] (z8 _)).2.1
  omega
 have:i=j:=(by omega);subst this;exact Int.le_refl _
theorem GB{l:List R2}(h:Nrm l){n:Nat}{i:Int}(hn:n<=l.length)(hp:∀j (_:j<l.length),j<n↔l[j].1<=i):((je l n).1<=i/\i<(je l n).2.1)↔mem l i:=by
 cases n with
 | zero =>
  constructor
  ·intro c;have o:(0:Int)<=i/\i<0:=c;omega
  ·rintro⟨r,d,a,f⟩;obtain⟨j,b,e⟩:=List.mem_iff_getElem.1 d;subst e;exact absurd ((hp j b).2 a) (yh _)
 | succ n =>
  rw[eI l n (by omega)];have p:=vB l n (by omega);have k:=(hp n (by omega)).1 (by omega);constructor
  ·exact fun c=>⟨l[n],z8 _,c⟩
  ·rintro⟨r,d,a,f⟩;obtain⟨j,b,e⟩:=List.mem_iff_getElem.1 d;subst e;have m:j<n+1:=(hp j b).2 a;rcases wm j n with g|g
   ·have:=List.pairwise_iff_getElem.1 h.1 j n b (by omega) g
    omega
   ·have e:j=n:=(by omega);subst e;exact⟨a,f⟩
theorem vC{l:List R2}(h:Nrm l):(je l l.length).2.2+(je l l.length).2.1-(je l l.length).1=((els l).length:Int):=by
 rcases eF l with rfl|⟨k,r,rfl⟩
 ·rfl
 have a:=h.2 r (by simp);have e:(k++[r]).length=k.length+1:=(by simp);rw[e,eI _ _ (by simp)];simp only[vf (zo _),Nat.sub_self,List.getElem_singleton,List.take_left,eH,pV,y6,iG];show((els k).length:Int)+r.2-r.1=_;omega
def under(xs:List Int)(i:Int):Nat:=(xs.filter fun x=>decide (x<i)).length
def sel(xs:List Int)(k:Int):Int:=if 0<=k then(xs[k.toNat]?).getD (-1)else -1
structure Be (la lb m:List R2) (i k:Nat):Prop where
 nrm:Nrm m
 is:∀x,mem la x/\mem lb x↔mem m x∨(mem (la.drop i) x/\mem (lb.drop k) x)
 ord:∀r∈m,∀a∈la.drop i,∀b∈lb.drop k,r.1<=max a.1 b.1
theorem Be.start(la lb:List R2):Be la lb [] 0 0:=⟨Nrm.nil,fun x=>by simp[eE],fun r h=>by simp at h⟩
theorem dL{l:List R2}{i:Nat}(h:i<l.length):l.drop i=l[i]::l.drop (i+1):=(List.getElem_cons_drop h).symm
theorem DQ{l:List R2}(h:Nrm l)(i:Nat):Nrm (l.drop i):=by
 have:Nrm (l.take i++l.drop i):=(by rw[uc];exact h);exact this.right
theorem lS{l:List R2}(h:Nrm l){i:Nat}(hi:i<l.length):∀s∈l.drop (i+1),l[i].2<s.1:=by
 have:=DQ h i
 rw[dL hi]at this;exact fun s a=>Nrm.gap (l:=[l[i]]) this l[i] (by simp) s a
theorem Ed{l:List R2}{x y:Int}(h:∀s∈l,y<s.1)(hx:mem l x):y<x:=by
 obtain⟨s,a,b,_⟩:=hx
 have:=h s a
 omega
structure qx (la lb m:List R2) (i k:Nat):Prop where
 nrm:Nrm m
 is:∀x,mem la x∨mem lb x↔mem m x∨mem (la.drop i) x∨mem (lb.drop k) x
 ord:∀r∈m,(∀a∈la.drop i,r.1<=a.1)/\∀b∈lb.drop k,r.1<=b.1
theorem qx.start(la lb:List R2):qx la lb [] 0 0:=⟨Nrm.nil,fun x=>by simp[eE],fun r h=>by simp at h⟩
theorem qx.Bj{la lb m:List R2}{i k:Nat}(h:qx la lb m i k)(ha:Nrm la)(hi:i<la.length):Fits m la[i].1 la[i].2:=by
 intro _;have b:=ha.2 la[i] (z8 _);exact⟨by omega,by omega,fun r a=>(h.ord r a).1 la[i] (by rw[dL hi];exact List.mem_cons_self)⟩
theorem qx.AV{la lb m:List R2}{i k:Nat}(h:qx la lb m i k)(hb:Nrm lb)(hk:k<lb.length):Fits m lb[k].1 lb[k].2:=by
 intro _;have b:=hb.2 lb[k] (z8 _);exact⟨by omega,by omega,fun r a=>(h.ord r a).2 lb[k] (by rw[dL hk];exact List.mem_cons_self)⟩
theorem qx.left{la lb m:List R2}{i k:Nat}(h:qx la lb m i k)(ha:Nrm la)(hi:i<la.length)(hle:∀b∈lb.drop k,la[i].1<=b.1):qx la lb (jg m la[i].1 la[i].2) (i+1) k:=by
 have f:=h.Bj ha hi;have g:=lS ha hi;have j:=ha.2 la[i] (z8 _);refine⟨iC h.nrm f,fun x=>?_,fun r c=>⟨fun a d=>?_,fun b e=>?_⟩⟩
 ·rw[h.is,iD h.nrm f,dL hi,mem_cons,or_assoc,or_assoc]
 ·exact jF (fun r c=>(h.ord r c).1 a (by rw[dL hi];exact List.mem_cons_of_mem _ d)) (fun _=>by have:=g a d;omega) r c
 exact jF (fun r c=>(h.ord r c).2 b e) (fun _=>hle b e) r c
theorem qx.right{la lb m:List R2}{i k:Nat}(h:qx la lb m i k)(hb:Nrm lb)(hk:k<lb.length)(hle:∀a∈la.drop i,lb[k].1<=a.1):qx la lb (jg m lb[k].1 lb[k].2) i (k+1):=by
 have g:=h.AV hb hk;have gb:=lS hb hk;have j:=hb.2 lb[k] (z8 _);refine⟨iC h.nrm g,fun x=>?_,fun r d=>⟨fun a e=>?_,fun b f=>?_⟩⟩
 ·rw[h.is,iD h.nrm g,dL hk,mem_cons,or_assoc];constructor
  ·rintro(c|c|c|c)
   ·exact .inl c
   ·exact .inr (.inr (.inl c))
   ·exact .inr (.inl c)
   exact .inr (.inr (.inr c))
  rintro(c|c|c|c)
  ·exact .inl c
  ·exact .inr (.inr (.inl c))
  ·exact .inr (.inl c)
  exact .inr (.inr (.inr c))
 ·exact jF (fun r d=>(h.ord r d).1 a e) (fun _=>hle a e) r d
 exact jF (fun r d=>(h.ord r d).2 b (by rw[dL hk];exact List.mem_cons_of_mem _ f)) (fun _=>by have:=gb b f;omega) r d
theorem qx.fin{la lb m:List R2}{i k:Nat}(h:qx la lb m i k)(hi:la.length<=i)(hk:lb.length<=k)(x:Int):mem m x↔mem la x∨mem lb x:=by
 rw[h.is,List.drop_eq_nil_of_le hi,List.drop_eq_nil_of_le hk];simp[eE]
theorem oA{l:List R2}(h:Nrm l){k:Nat}(hk:k<l.length){y:Int}(hy:y<=l[k].1):∀b∈l.drop k,y<=b.1:=by
 intro b c;obtain⟨j,d,a,rfl⟩:=pZ c
 have:=nZ h a d
 omega
structure qk (la m:List R2) (n:Int) (j:Nat) (at_:Int):Prop where
 nrm:Nrm m
 is:∀x,mem m x↔0<=x/\x<at_/\x<n/\¬ mem la x
 lo:0<=at_/\at_<=65536
 upto:∀r∈la.take j,r.2<=at_
 on:∀r∈la.drop j,at_<=r.1
 ord:∀r∈m,r.1<=at_
theorem qk.start{la:List R2}(ha:Nrm la)(n:Int):qk la [] n 0 0:=
 ⟨Nrm.nil,fun x=>⟨fun h=>absurd h (eE x),fun h=>by omega⟩,by omega,fun r h=>by simp at h,fun r h=>(ha.2 r (by simpa using h)).1,fun r h=>by simp at h⟩
theorem qk.fits{la m:List R2}{n:Int}{j:Nat}{at_:Int}(h:qk la m n j at_)(hn:n<=65536)(y:Int):Fits m at_ (min y n):=fun _=>⟨h.lo.1,by omega,h.ord⟩
theorem qk.step{la m:List R2}{n:Int}{j:Nat}{at_:Int}(h:qk la m n j at_)(ha:Nrm la)(hn:n<=65536)(hj:j<la.length):qk la (jg m at_ (min la[j].1 n)) n (j+1) la[j].2:=by
 have o:=h.fits hn la[j].1;have p:=lS ha hj;have u:=ha.2 la[j] (z8 _);have v:=h.on la[j] (by rw[dL hj];exact List.mem_cons_self);have w:=h.lo;refine⟨iC h.nrm o,fun x=>?_,by omega,fun r f=>?_,fun r f=>Int.le_of_lt (p r f),jF (fun r f=>by have:=h.ord r f;omega) (fun _=>by omega)⟩
 ·rw[iD h.nrm o,h.is];have k:=(fun q=>Ed (x:=x) p q);have e:=vB la j hj;have s:mem la x↔mem (la.take j) x∨((la[j].1<=x/\x<la[j].2)∨mem (la.drop (j+1)) x):=by rw[<-fN la[j] x,<-mem_append,<-mem_append,<-e]
  have g:mem (la.take j) x->x<at_:=by
   rintro⟨r,f,_,i⟩
   have:=h.upto r f
   omega
  constructor
  ·rintro(⟨a,b,c,d⟩ | q)
   ·exact⟨a,by omega,c,d⟩
   refine⟨by omega,by omega,by omega,fun l=>?_⟩;rcases s.1 l with i|i|i
   ·have:=g i;omega
   ·omega
   have:=k i;omega
  rintro⟨a,b,c,d⟩;rcases Int.lt_or_le x at_ with i|i
  ·exact .inl ⟨a,i,c,d⟩
  right
  have:¬ (la[j].1<=x/\x<la[j].2):=(fun t=>d (s.2 (.inr (.inl t))));omega
 rw[yi hj]at f;rcases List.mem_append.1 f with f|f
 ·have:=h.upto r f;omega
 rw[zz]at f;subst f;exact Int.le_refl _
theorem qk.fin{la m:List R2}{n:Int}{j:Nat}{at_:Int}(h:qk la m n j at_)(hn:n<=65536)(hj:la.length<=j):Fits m at_ n/\Nrm (jg m at_ n)/\∀x,mem (jg m at_ n) x↔0<=x/\x<n/\¬ mem la x:=by
 have g:Fits m at_ n:=(fun _=>⟨h.lo.1,hn,h.ord⟩);refine⟨g,iC h.nrm g,fun x=>?_⟩;have k:=h.lo
 have e:mem la x->x<at_:=by
  rintro⟨r,i,_,f⟩
  have:=h.upto r (by rw[yu hj];exact i)
  omega
 rw[iD h.nrm g,h.is];constructor
 ·rintro(⟨a,b,c,d⟩ | l)
  ·exact⟨a,c,d⟩
  exact⟨by omega,by omega,fun f=>by have:=e f;omega⟩
 rintro⟨a,c,d⟩;rcases Int.lt_or_le x at_ with f|f
 ·exact .inl ⟨a,f,c,d⟩
 exact .inr ⟨f,c⟩
theorem rJ(zs:List Int)(y:Int):uh (zs++[y])=jg (uh zs) y (y+1):=by unfold uh;rw[List.foldl_append];rfl
theorem CH(zs:List Int)(h:zs.Pairwise (·<=·))(hb:∀y∈zs,0<=y/\y<65536):Nrm (uh zs)/\(∀x,mem (uh zs) x↔x∈zs)/\∀r∈uh zs,∃y∈zs,r.1<=y:=by
 obtain⟨n,b⟩:=ae zs.length
 induction n generalizing zs with
 | zero =>
  rw[List.length_eq_zero_iff.1 b];exact⟨Nrm.nil,fun x=>⟨fun h=>absurd h (eE x),fun h=>by simp at h⟩,fun r h=>by simp[uh]at h⟩
 | succ n ih =>
  rcases eF zs with rfl|⟨k,y,rfl⟩
  ·simp at b
  ·have e:=List.pairwise_append.1 h;obtain⟨f,i,j⟩:=ih k e.1 (fun y c=>hb y (by simp[c])) (by simpa using b);have c:=hb y (by simp)
   have a:∀r∈uh k,r.1<=y:=fun r d=>by
    obtain⟨z,l,m⟩:=j r d
    have:=e.2.2 z l y (by simp)
    omega
   have g:Fits (uh k) y (y+1):=(fun _=>⟨c.1,by omega,a⟩);rw[rJ];refine⟨iC f g,fun x=>?_,fun r d=>⟨y,by simp,jF a (fun _=>Int.le_refl _) r d⟩⟩;rw[iD f g,i,List.mem_append,zz];constructor
   ·rintro(h|h)
    ·exact .inl h
    ·exact .inr (by omega)
   ·rintro(h|h)
    ·exact .inl h
    ·exact .inr (by omega)
end Go.Proofs.YtkchgbjoeggdbaaGreat
namespace Go.Proofs.YtkchgbjoeggdbaaGreat
