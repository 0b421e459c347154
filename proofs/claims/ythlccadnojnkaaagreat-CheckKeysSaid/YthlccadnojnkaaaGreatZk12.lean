import Derived.Test.YthlccadnojnkaaaGreatZk1
import Init
namespace Go.Proofs.YthlccadnojnkaaaGreat
abbrev R2:=Int×Int
def mem (l:List R2) (x:Int):Prop:=∃ r∈l,r.1<=x/\x<r.2
def Nrm (l:List R2):Prop:=l.Pairwise (fun r s=>r.2<s.1)/\∀ r∈l,0<=r.1/\r.1<r.2/\r.2<=65536
theorem Nrm.nil:Nrm []:=⟨List.Pairwise.nil,fun r h=>by simp at h⟩
theorem eW (x:Int):¬ mem [] x:=fun ⟨r,h,_⟩=>by simp at h
theorem mem_append (l m:List R2) (x:Int):mem (l++m) x↔mem l x∨mem m x:=by
 constructor
 ·rintro ⟨r,h,k⟩;rcases List.mem_append.1 h with h|h
  ·exact .inl ⟨r,h,k⟩
  exact .inr ⟨r,h,k⟩
 rintro (⟨r,h,k⟩ | ⟨r,h,k⟩)
 ·exact⟨r,List.mem_append.2 (.inl h),k⟩
 exact⟨r,List.mem_append.2 (.inr h),k⟩
theorem fY (r:R2) (x:Int):mem [r] x↔r.1<=x/\x<r.2:=by
 constructor
 ·rintro ⟨s,h,k⟩;rw[List.mem_singleton] at h;subst h;exact k
 exact fun h=>⟨r,by simp,h⟩
theorem mem_cons (r:R2) (l:List R2) (x:Int):mem (r::l) x↔(r.1<=x/\x<r.2)∨mem l x:=by
 have:=mem_append [r] l x
 rw[fY] at this;exact this
theorem aGN {l:List R2} (h:Nrm l) {x:Int} (hx:mem l x):0<=x/\x<65536:=by
 obtain⟨r,hr,h1,h2⟩:=hx
 have:=h.2 r hr
 omega
theorem Nrm.left {l m:List R2} (h:Nrm (l++m)):Nrm l:=⟨(List.pairwise_append.1 h.1).1,fun r hr=>h.2 r (List.mem_append.2 (.inl hr))⟩
theorem Nrm.right {l m:List R2} (h:Nrm (l++m)):Nrm m:=⟨(List.pairwise_append.1 h.1).2.1,fun r hr=>h.2 r (List.mem_append.2 (.inr hr))⟩
theorem Nrm.gap {l m:List R2} (h:Nrm (l++m)):∀ r∈l,∀ s∈m,r.2<s.1:=(List.pairwise_append.1 h.1).2.2
theorem Nrm.mk {l m:List R2} (h:Nrm l) (k:Nrm m) (g:∀ r∈l,∀ s∈m,r.2<s.1):Nrm (l++m) :=
 ⟨List.pairwise_append.2 ⟨h.1,k.1,g⟩,fun r hr=>(List.mem_append.1 hr).elim (h.2 r) (k.2 r)⟩
theorem Nrm.one {f t:Int} (h0:0<=f) (h1:f<t) (h2:t<=65536):Nrm [(f,t)] :=
 ⟨List.pairwise_singleton _ _,fun r hr=>by rw[List.mem_singleton] at hr;subst hr;exact⟨h0,h1,h2⟩⟩
theorem eX {α:Type} (l:List α):l=[]∨∃ k r,l=k++[r]:=by
 rcases List.eq_nil_or_concat l with h|⟨k,r,h⟩
 ·exact .inl h
 exact .inr ⟨k,r,by rw[h,List.concat_eq_append]⟩
def addL (l:List R2) (f t:Int):List R2 :=
 if f<t then
  match l.getLast? with
  | some r=>if f<=r.2 then l.dropLast++[(r.1,max t r.2)] else l++[(f,t)]
  | none=>[(f,t)]
 else l
theorem lO {l:List R2} {f t:Int} (h:¬ f<t):addL l f t=l:=by unfold addL;rw[if_neg h]
theorem iU {f t:Int} (h:f<t):addL [] f t=[(f,t)]:=by unfold addL;rw[if_pos h];rfl
theorem dS {k:List R2} {r:R2} {f t:Int} (h:f<t) (h1:f<=r.2):addL (k++[r]) f t=k++[(r.1,max t r.2)]:=by
 unfold addL;rw[if_pos h];simp[h1]
theorem eY {k:List R2} {r:R2} {f t:Int} (h:f<t) (h1:¬ f<=r.2):addL (k++[r]) f t=k++[r]++[(f,t)]:=by
 unfold addL;rw[if_pos h];simp only[List.getLast?_append,List.getLast?_singleton,Option.some_or,if_neg h1]
def Fits (l:List R2) (f t:Int):Prop:=f<t->0<=f/\t<=65536/\∀ r∈l,r.1<=f
theorem iV {l:List R2} {f t:Int} (h:Nrm l) (k:Fits l f t):Nrm (addL l f t):=by
 by_cases hf:f<t
 ·obtain⟨k0,k1,k2⟩:=k hf;rcases eX l with rfl|⟨l,r,rfl⟩
  ·rw[iU hf];exact Nrm.one k0 hf k1
  have hr:=h.2 r (by simp);have hg:=h.gap;have hfr:=k2 r (by simp);by_cases ht:f<=r.2
  ·rw[dS hf ht];refine h.left.mk (Nrm.one hr.1 (by omega) (by omega)) (fun q hq s hs=>?_);rw[List.mem_singleton] at hs;subst hs;exact hg q hq r (by simp)
  rw[eY hf ht];refine h.mk (Nrm.one k0 hf k1) (fun q hq s hs=>?_);rw[List.mem_singleton] at hs;subst hs;rcases List.mem_append.1 hq with hq|hq
  ·have:=hg q hq r (by simp)
   show q.2<f;omega
  rw[List.mem_singleton] at hq;subst hq;show q.2<f;omega
 rw[lO hf];exact h
theorem iW {l:List R2} {f t:Int} (h:Nrm l) (k:Fits l f t) (x:Int):mem (addL l f t) x↔mem l x∨(f<=x/\x<t):=by
 by_cases hf:f<t
 ·obtain⟨k0,k1,k2⟩:=k hf;rcases eX l with rfl|⟨l,r,rfl⟩
  ·rw[iU hf,fY]
   have:=eW x
   exact⟨fun h=>.inr h,fun h=>h.resolve_left this⟩
  have hr:=h.2 r (by simp);have hfr:=k2 r (by simp);by_cases ht:f<=r.2
  ·rw[dS hf ht,mem_append,mem_append,fY,fY];have:(r.1<=x/\x<max t r.2)↔(r.1<=x/\x<r.2)∨(f<=x/\x<t):=(by omega);show mem l x∨(r.1<=x/\x<max t r.2)↔_;rw[this,or_assoc]
  rw[eY hf ht,mem_append,fY]
 rw[lO hf];exact⟨fun h=>.inl h,fun h=>h.resolve_right (by omega)⟩
theorem jS {l:List R2} {f t g:Int} (h:∀ r∈l,r.1<=g) (k:f<t->f<=g):∀ r∈addL l f t,r.1<=g:=by
 by_cases hf:f<t
 ·rcases eX l with rfl|⟨l,r,rfl⟩
  ·rw[iU hf];intro q hq;rw[List.mem_singleton] at hq;subst hq;exact k hf
  by_cases ht:f<=r.2
  ·rw[dS hf ht];intro q hq;rcases List.mem_append.1 hq with hq|hq
   ·exact h q (by simp[hq])
   rw[List.mem_singleton] at hq;subst hq;exact h r (by simp)
  rw[eY hf ht];intro q hq;rcases List.mem_append.1 hq with hq|hq
  ·exact h q hq
  rw[List.mem_singleton] at hq;subst hq;exact k hf
 rw[lO hf];exact h
def rng (a b:Int):List Int:=(List.range (b-a).toNat).map (fun i:Nat=>a+(i:Int))
theorem iX {a b x:Int}:x∈rng a b↔a<=x/\x<b:=by
 unfold rng;rw[List.mem_map];constructor
 ·rintro ⟨i,h,rfl⟩;rw[List.mem_range] at h;omega
 intro h;exact⟨(x-a).toNat,by rw[List.mem_range];omega,by omega⟩
theorem fZ (a b:Int):(rng a b).length=(b-a).toNat:=by simp[rng]
theorem aES {a b:Int} (h:b<=a):rng a b=[]:=by unfold rng;rw[show (b-a).toNat=0 by omega];rfl
theorem aCs {a b:Int} (h:a<b):rng a b=a::rng (a+1) b:=by
 unfold rng;rw[show (b-a).toNat=(b-(a+1)).toNat+1 by omega,List.range_succ_eq_map,List.map_cons,List.map_map]
 congr 1
 ·omega
 apply List.map_congr_left;intro i _;show a+((i+1:Nat):Int)=a+1+(i:Int);omega
theorem aET {a b:Int} {i:Nat} (h:i<(b-a).toNat):(rng a b)[i]?=some (a+(i:Int)):=by
 unfold rng;rw[List.getElem?_map,List.getElem?_range h];rfl
theorem zE (a b:Int):(rng a b).Pairwise (·<·):=by
 obtain⟨n,hn⟩:∃ n,(b-a).toNat=n:=⟨_,rfl⟩
 induction n generalizing a with
 | zero=>rw[aES (by omega)];exact List.Pairwise.nil
 | succ n ih =>
  rw[aCs (by omega),List.pairwise_cons];exact⟨fun x hx=>by have:=(iX.1 hx).1;omega,ih (a+1) (by omega)⟩
theorem zG {xs ys:List Int} (h:xs.Pairwise (·<·)) (k:ys.Pairwise (·<·)) (e:∀ x,x∈xs↔x∈ys):xs=ys:=by
 induction xs generalizing ys with
 | nil =>
  cases ys with
  | nil=>rfl
  | cons y ys=>exact absurd ((e y).2 (by simp)) (by simp)
 | cons x xs ih =>
  cases ys with
  | nil=>exact absurd ((e x).1 (by simp)) (by simp)
  | cons y ys =>
   rw[List.pairwise_cons] at h k
   have hxy:x=y:=by
    rcases List.mem_cons.1 ((e x).1 (by simp)) with h1|h1
    ·exact h1
    ·rcases List.mem_cons.1 ((e y).2 (by simp)) with h2|h2
     ·exact h2.symm
     ·have:=k.1 x h1
      have:=h.1 y h2
      omega
   subst hxy
   congr 1
   refine ih h.2 k.2 (fun z=>?_)
   have:=e z
   rw[List.mem_cons,List.mem_cons] at this;constructor
   ·intro hz;have h1:=h.1 z hz;exact (this.1 (.inr hz)).resolve_left (by omega)
   ·intro hz;have h1:=k.1 z hz;exact (this.2 (.inr hz)).resolve_left (by omega)
def els (l:List R2):List Int:=l.flatMap fun r=>rng r.1 r.2
theorem dT (l m:List R2):els (l++m)=els l++els m:=by simp[els]
theorem lP (r:R2):els [r]=rng r.1 r.2:=by simp[els]
theorem mC (r:R2) (l:List R2):els (r::l)=rng r.1 r.2++els l:=by simp[els]
theorem qR {l:List R2} {x:Int}:x∈els l↔mem l x:=by
 unfold els;rw[List.mem_flatMap];constructor
 ·rintro ⟨r,h,k⟩;exact⟨r,h,iX.1 k⟩
 rintro ⟨r,h,k⟩;exact⟨r,h,iX.2 k⟩
theorem zH {l:List R2} (h:Nrm l):(els l).Pairwise (·<·):=by
 induction l with
 | nil=>exact List.Pairwise.nil
 | cons r l ih =>
  have hr:Nrm (([r]:List R2)++l):=h;rw[mC,List.pairwise_append];refine⟨zE _ _,ih hr.right,fun x hx y hy=>?_⟩;obtain⟨s,hs,h1,_⟩:=qR.1 hy
  have:=hr.gap r (by simp) s hs
  have:=(iX.1 hx).2
  omega
def elems (P:Int->Bool):List Int:=(rng 0 65536).filter P
theorem aAT {P:Int->Bool} {x:Int}:x∈elems P↔(0<=x/\x<65536)/\P x=true:=by
 unfold elems;rw[List.mem_filter,iX]
theorem aAU (P:Int->Bool):(elems P).Pairwise (·<·):=(zE _ _).filter _
def Is (l:List R2) (P:Int->Bool):Prop:=∀ x,mem l x↔P x=true
theorem Is.els {l:List R2} {P:Int->Bool} (h:Nrm l) (k:Is l P):els l=elems P :=
 zG (zH h) (aAU P) (fun x=>by
  rw[qR,aAT];constructor
  ·intro hx;exact⟨aGN h hx,(k x).1 hx⟩
  ·exact fun hx=>(k x).2 hx.2)
def ofL (xs:List Int):List R2:=xs.foldl (fun L x=>addL L x (x+1)) []
theorem aGO {l:List R2} (h:Nrm l):l.length<=(els l).length:=by
 induction l with
 | nil=>exact Nat.zero_le _
 | cons r l ih =>
  have hr:Nrm (([r]:List R2)++l):=h;have h1:=h.2 r (by simp)
  have:=ih hr.right
  rw[mC,List.length_cons,List.length_append,fZ];omega
theorem aAV (P:Int->Bool):(elems P).length<=65536:=by
 have:=List.length_filter_le P (rng 0 65536)
 rw[fZ] at this;exact this
theorem zI {l:List R2} (h:Nrm l):(els l).length<=65536:=by
 have:Is l (fun x=>l.any fun r=>decide (r.1<=x/\x<r.2)):=(fun x=>by simp[mem]);rw[this.els h];exact aAV _
theorem cT {l:List R2} (h:Nrm l):l.length<=65536:=Nat.le_trans (aGO h) (zI h)
end Go.Proofs.YthlccadnojnkaaaGreat
namespace Go.Proofs.YthlccadnojnkaaaGreat
abbrev R3:=Int×Int×Int
def mkF:Int->List R2->List R3
 | _,[]=>[]
 | c,r::l=>(r.1,r.2,c)::mkF (c+((rng r.1 r.2).length:Int)) l
def mk (l:List R2):List R3:=mkF 0 l
theorem qS (c:Int) (l:List R2):(mkF c l).length=l.length:=by
 induction l generalizing c with
 | nil=>rfl
 | cons r l ih=>rw[mkF,List.length_cons,List.length_cons,ih]
theorem aGP (l:List R2):(mk l).length=l.length:=qS 0 l
theorem mD (c:Int) (l m:List R2):mkF c (l++m)=mkF c l++mkF (c+((els l).length:Int)) m:=by
 induction l generalizing c with
 | nil=>simp[els,mkF]
 | cons r l ih =>
  show (r.1,r.2,c)::mkF _ (l++m)=_;rw[ih,mC,List.length_append,mkF,List.cons_append]
  congr 3
  omega
theorem qT (l:List R2) (r:R2):mk (l++[r])=mk l++[(r.1,r.2,((els l).length:Int))]:=by
 unfold mk;rw[mD];simp[mkF]
theorem wQ (l:List R2) (i:Nat) (h:i<l.length):(mk l)[i]?=some (l[i].1,l[i].2,((els (l.take i)).length:Int)):=by
 have e:l=l.take i++l[i]::l.drop (i+1):=(by rw[List.getElem_cons_drop,List.take_append_drop]);have h2:(mk l)[i]?=(mkF 0 (l.take i++l[i]::l.drop (i+1)))[i]?:=(by rw[<- e];rfl);rw[h2,mD,List.getElem?_append_right (by rw[qS,List.length_take];omega),qS,List.length_take,show i-min i l.length=0 by omega];simp[mkF]
def lastR (l:List R2):Nat->R3
 | 0=>(0,0,0)
 | n+1=>(mk l).getD n (0,0,0)
theorem gV (l:List R2) (n:Nat) (h:n<l.length):lastR l (n+1)=(l[n].1,l[n].2,((els (l.take n)).length:Int)):=by
 show (mk l).getD n (0,0,0)=_;rw[List.getD_eq_getElem?_getD,wQ l n h];rfl
theorem aCt (l:List R2) (n:Nat) (h:n<l.length):l=l.take n++([l[n]]++l.drop (n+1)):=by
 rw[List.singleton_append,List.getElem_cons_drop,List.take_append_drop]
theorem qU {α:Type} {l:List α} {n:Nat} {x:α} (h:x∈l.drop n):∃ (j:Nat) (_:j<l.length),n<=j/\l[j]=x:=by
 obtain⟨j,hj,e⟩:=List.mem_iff_getElem.1 h;rw[List.length_drop] at hj;exact⟨n+j,by omega,by omega,by rw[<- e,List.getElem_drop]⟩
theorem aAW {l:List R2} (h:Nrm l) {i j:Nat} (hij:i<=j) (hj:j<l.length):l[i].1<=l[j].1:=by
 rcases Nat.lt_or_ge i j with h1|h1
 ·have:=List.pairwise_iff_getElem.1 h.1 i j (by omega) hj h1
  have:=(h.2 l[i] (List.getElem_mem _)).2.1
  omega
 have:i=j:=(by omega);subst this;exact Int.le_refl _
theorem wR {l:List R2} (h:Nrm l):(lastR l l.length).2.2+(lastR l l.length).2.1-(lastR l l.length).1=((els l).length:Int):=by
 rcases eX l with rfl|⟨k,r,rfl⟩
 ·rfl
 have hr:=h.2 r (by simp);have e:(k++[r]).length=k.length+1:=(by simp);rw[e,gV _ _ (by simp)];simp only[List.getElem_append_right (Nat.le_refl _),Nat.sub_self,List.getElem_singleton,List.take_left,dT,lP,List.length_append,fZ];show ((els k).length:Int)+r.2-r.1=_;omega
def under (xs:List Int) (i:Int):Nat:=(xs.filter fun x=>decide (x<i)).length
def sel (xs:List Int) (k:Int):Int:=if 0<=k then (xs[k.toNat]?).getD (-1) else -1
structure AndI (la lb m:List R2) (i k:Nat):Prop where
 nrm:Nrm m
 is:∀ x,mem la x/\mem lb x↔mem m x∨(mem (la.drop i) x/\mem (lb.drop k) x)
 ord:∀ r∈m,∀ a∈la.drop i,∀ b∈lb.drop k,r.1<=max a.1 b.1
theorem AndI.start (la lb:List R2):AndI la lb [] 0 0:=⟨Nrm.nil,fun x=>by simp[eW],fun r h=>by simp at h⟩
theorem eC {l:List R2} {i:Nat} (h:i<l.length):l.drop i=l[i]::l.drop (i+1):=(List.getElem_cons_drop h).symm
theorem aCu {l:List R2} (h:Nrm l) (i:Nat):Nrm (l.drop i):=by
 have:Nrm (l.take i++l.drop i):=(by rw[List.take_append_drop];exact h);exact this.right
theorem mE {l:List R2} (h:Nrm l) {i:Nat} (hi:i<l.length):∀ s∈l.drop (i+1),l[i].2<s.1:=by
 have:=aCu h i
 rw[eC hi] at this;exact fun s hs=>Nrm.gap (l:=[l[i]]) this l[i] (by simp) s hs
theorem aCv {l:List R2} {x y:Int} (h:∀ s∈l,y<s.1) (hx:mem l x):y<x:=by
 obtain⟨s,hs,h1,_⟩:=hx
 have:=h s hs
 omega
structure OrI (la lb m:List R2) (i k:Nat):Prop where
 nrm:Nrm m
 is:∀ x,mem la x∨mem lb x↔mem m x∨mem (la.drop i) x∨mem (lb.drop k) x
 ord:∀ r∈m,(∀ a∈la.drop i,r.1<=a.1)/\∀ b∈lb.drop k,r.1<=b.1
theorem OrI.start (la lb:List R2):OrI la lb [] 0 0:=⟨Nrm.nil,fun x=>by simp[eW],fun r h=>by simp at h⟩
theorem OrI.fitsL {la lb m:List R2} {i k:Nat} (h:OrI la lb m i k) (ha:Nrm la) (hi:i<la.length):Fits m la[i].1 la[i].2:=by
 intro _;have h1:=ha.2 la[i] (List.getElem_mem _);exact⟨by omega,by omega,fun r hr=>(h.ord r hr).1 la[i] (by rw[eC hi];exact List.mem_cons_self)⟩
theorem OrI.fitsR {la lb m:List R2} {i k:Nat} (h:OrI la lb m i k) (hb:Nrm lb) (hk:k<lb.length):Fits m lb[k].1 lb[k].2:=by
 intro _;have h1:=hb.2 lb[k] (List.getElem_mem _);exact⟨by omega,by omega,fun r hr=>(h.ord r hr).2 lb[k] (by rw[eC hk];exact List.mem_cons_self)⟩
theorem OrI.left {la lb m:List R2} {i k:Nat} (h:OrI la lb m i k) (ha:Nrm la) (hi:i<la.length) (hle:∀ b∈lb.drop k,la[i].1<=b.1):OrI la lb (addL m la[i].1 la[i].2) (i+1) k:=by
 have hf:=h.fitsL ha hi;have ga:=mE ha hi;have h1:=ha.2 la[i] (List.getElem_mem _);refine⟨iV h.nrm hf,fun x=>?_,fun r hr=>⟨fun a ha'=>?_,fun b hb'=>?_⟩⟩
 ·rw[h.is,iW h.nrm hf,eC hi,mem_cons,or_assoc,or_assoc]
 ·exact jS (fun r hr=>(h.ord r hr).1 a (by rw[eC hi];exact List.mem_cons_of_mem _ ha')) (fun _=>by have:=ga a ha';omega) r hr
 exact jS (fun r hr=>(h.ord r hr).2 b hb') (fun _=>hle b hb') r hr
theorem OrI.right {la lb m:List R2} {i k:Nat} (h:OrI la lb m i k) (hb:Nrm lb) (hk:k<lb.length) (hle:∀ a∈la.drop i,lb[k].1<=a.1):OrI la lb (addL m lb[k].1 lb[k].2) i (k+1):=by
 have hf:=h.fitsR hb hk;have gb:=mE hb hk;have h1:=hb.2 lb[k] (List.getElem_mem _);refine⟨iV h.nrm hf,fun x=>?_,fun r hr=>⟨fun a ha'=>?_,fun b hb'=>?_⟩⟩
 ·rw[h.is,iW h.nrm hf,eC hk,mem_cons,or_assoc];constructor
  ·rintro (hx|hx|hx|hx)
   ·exact .inl hx
   ·exact .inr (.inr (.inl hx))
   ·exact .inr (.inl hx)
   exact .inr (.inr (.inr hx))
  rintro (hx|hx|hx|hx)
  ·exact .inl hx
  ·exact .inr (.inr (.inl hx))
  ·exact .inr (.inl hx)
  exact .inr (.inr (.inr hx))
 ·exact jS (fun r hr=>(h.ord r hr).1 a ha') (fun _=>hle a ha') r hr
 exact jS (fun r hr=>(h.ord r hr).2 b (by rw[eC hk];exact List.mem_cons_of_mem _ hb')) (fun _=>by have:=gb b hb';omega) r hr
theorem OrI.fin {la lb m:List R2} {i k:Nat} (h:OrI la lb m i k) (hi:la.length<=i) (hk:lb.length<=k) (x:Int):mem m x↔mem la x∨mem lb x:=by
 rw[h.is,List.drop_eq_nil_of_le hi,List.drop_eq_nil_of_le hk];simp[eW]
theorem pB {l:List R2} (h:Nrm l) {k:Nat} (hk:k<l.length) {y:Int} (hy:y<=l[k].1):∀ b∈l.drop k,y<=b.1:=by
 intro b hb;obtain⟨j,hj,hkj,rfl⟩:=qU hb
 have:=aAW h hkj hj
 omega
structure NotI (la m:List R2) (n:Int) (j:Nat) (at_:Int):Prop where
 nrm:Nrm m
 is:∀ x,mem m x↔0<=x/\x<at_/\x<n/\¬ mem la x
 lo:0<=at_/\at_<=65536
 upto:∀ r∈la.take j,r.2<=at_
 on:∀ r∈la.drop j,at_<=r.1
 ord:∀ r∈m,r.1<=at_
theorem NotI.start {la:List R2} (ha:Nrm la) (n:Int):NotI la [] n 0 0 :=
 ⟨Nrm.nil,fun x=>⟨fun h=>absurd h (eW x),fun h=>by omega⟩,by omega,fun r h=>by simp at h,fun r h=>(ha.2 r (by simpa using h)).1,fun r h=>by simp at h⟩
theorem NotI.fits {la m:List R2} {n:Int} {j:Nat} {at_:Int} (h:NotI la m n j at_) (hn:n<=65536) (y:Int):Fits m at_ (min y n):=fun _=>⟨h.lo.1,by omega,h.ord⟩
theorem NotI.step {la m:List R2} {n:Int} {j:Nat} {at_:Int} (h:NotI la m n j at_) (ha:Nrm la) (hn:n<=65536) (hj:j<la.length):NotI la (addL m at_ (min la[j].1 n)) n (j+1) la[j].2:=by
 have hf:=h.fits hn la[j].1;have ga:=mE ha hj;have h1:=ha.2 la[j] (List.getElem_mem _);have h2:=h.on la[j] (by rw[eC hj];exact List.mem_cons_self);have h3:=h.lo;refine⟨iV h.nrm hf,fun x=>?_,by omega,fun r hr=>?_,fun r hr=>Int.le_of_lt (ga r hr),jS (fun r hr=>by have:=h.ord r hr;omega) (fun _=>by omega)⟩
 ·rw[iW h.nrm hf,h.is];have hlate:=(fun hx=>aCv (x:=x) ga hx);have e:=aCt la j hj;have hm:mem la x↔mem (la.take j) x∨((la[j].1<=x/\x<la[j].2)∨mem (la.drop (j+1)) x):=by rw[<- fY la[j] x,<- mem_append,<- mem_append,<- e]
  have hearly:mem (la.take j) x->x<at_:=by
   rintro ⟨r,hr,_,h5⟩
   have:=h.upto r hr
   omega
  constructor
  ·rintro (⟨a,b,c,d⟩ | hx)
   ·exact⟨a,by omega,c,d⟩
   refine⟨by omega,by omega,by omega,fun hx'=>?_⟩;rcases hm.1 hx' with h5|h5|h5
   ·have:=hearly h5;omega
   ·omega
   have:=hlate h5;omega
  rintro ⟨a,b,c,d⟩;rcases Int.lt_or_le x at_ with h5|h5
  ·exact .inl ⟨a,h5,c,d⟩
  right
  have:¬ (la[j].1<=x/\x<la[j].2):=(fun h6=>d (hm.2 (.inr (.inl h6))));omega
 rw[List.take_succ_eq_append_getElem hj] at hr;rcases List.mem_append.1 hr with hr|hr
 ·have:=h.upto r hr;omega
 rw[List.mem_singleton] at hr;subst hr;exact Int.le_refl _
theorem NotI.fin {la m:List R2} {n:Int} {j:Nat} {at_:Int} (h:NotI la m n j at_) (hn:n<=65536) (hj:la.length<=j):Fits m at_ n/\Nrm (addL m at_ n)/\∀ x,mem (addL m at_ n) x↔0<=x/\x<n/\¬ mem la x:=by
 have hf:Fits m at_ n:=(fun _=>⟨h.lo.1,hn,h.ord⟩);refine⟨hf,iV h.nrm hf,fun x=>?_⟩;have h3:=h.lo
 have hearly:mem la x->x<at_:=by
  rintro ⟨r,hr,_,h5⟩
  have:=h.upto r (by rw[List.take_of_length_le hj];exact hr)
  omega
 rw[iW h.nrm hf,h.is];constructor
 ·rintro (⟨a,b,c,d⟩ | hx)
  ·exact⟨a,c,d⟩
  exact⟨by omega,by omega,fun h5=>by have:=hearly h5;omega⟩
 rintro ⟨a,c,d⟩;rcases Int.lt_or_le x at_ with h5|h5
 ·exact .inl ⟨a,h5,c,d⟩
 exact .inr ⟨h5,c⟩
theorem sO (zs:List Int) (y:Int):ofL (zs++[y])=addL (ofL zs) y (y+1):=by unfold ofL;rw[List.foldl_append];rfl
theorem aCw (zs:List Int) (h:zs.Pairwise (·<=·)) (hb:∀ y∈zs,0<=y/\y<65536):Nrm (ofL zs)/\(∀ x,mem (ofL zs) x↔x∈zs)/\∀ r∈ofL zs,∃ y∈zs,r.1<=y:=by
 obtain⟨n,hn⟩:∃ n,zs.length=n:=⟨_,rfl⟩
 induction n generalizing zs with
 | zero =>
  rw[List.length_eq_zero_iff.1 hn];exact⟨Nrm.nil,fun x=>⟨fun h=>absurd h (eW x),fun h=>by simp at h⟩,fun r h=>by simp[ofL] at h⟩
 | succ n ih =>
  rcases eX zs with rfl|⟨k,y,rfl⟩
  ·simp at hn
  ·have hp:=List.pairwise_append.1 h;obtain⟨h1,h2,h3⟩:=ih k hp.1 (fun y hy=>hb y (by simp[hy])) (by simpa using hn);have hy:=hb y (by simp)
   have hlo:∀ r∈ofL k,r.1<=y:=fun r hr=>by
    obtain⟨z,hz,hrz⟩:=h3 r hr
    have:=hp.2.2 z hz y (by simp)
    omega
   have hf:Fits (ofL k) y (y+1):=(fun _=>⟨hy.1,by omega,hlo⟩);rw[sO];refine⟨iV h1 hf,fun x=>?_,fun r hr=>⟨y,by simp,jS hlo (fun _=>Int.le_refl _) r hr⟩⟩;rw[iW h1 hf,h2,List.mem_append,List.mem_singleton];constructor
   ·rintro (h|h)
    ·exact .inl h
    ·exact .inr (by omega)
   ·rintro (h|h)
    ·exact .inl h
    ·exact .inr (by omega)
end Go.Proofs.YthlccadnojnkaaaGreat
namespace Go.Proofs.YthlccadnojnkaaaGreat
