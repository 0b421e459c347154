import Derived.Test.YthlccadnojnkaaaGreatZn1
import Derived.Test.YthlccadnojnkaaaGreatProg
namespace Go.Proofs.YthlccadnojnkaaaGreat.Co
inductive T (κ β:Type) where
 | nil
 | nd (k:κ) (v:β) (l r:T κ β)
namespace T
variable {κ β:Type}
def size:T κ β->Nat
 | nil=>0
 | nd _ _ l r=>l.size+1+r.size
def fj:T κ β->List (κ×β)
 | nil=>[]
 | nd k v l r=>l.fj++(k,v)::r.fj
theorem len(t:T κ β):t.fj.length=t.size:=by
 induction t with
 | nil=>rfl
 | nd k v l r hl hr=>simp only[fj,size,y8,xe,hl,hr];omega
theorem rx{t:T κ β}(h:t.fj=[]):t=nil:=by
 cases t with
 | nil=>rfl
 | nd k v l r=>simp[fj]at h
end T
def ic(x y:Int):Int:=if x<y then -1 else if y<x then 1 else 0
theorem nR{x y:Int}:ic x y<0↔x<y:=by unfold ic;by_cases a:x<y <;> by_cases b:y<x <;> simp[a,b]
theorem nS{x y:Int}:0<ic x y↔y<x:=by unfold ic;by_cases a:x<y <;> by_cases b:y<x <;> simp[a,b];omega
theorem gM{x y:Int}:ic x y=0↔x=y:=by unfold ic;by_cases a:x<y <;> by_cases b:y<x <;> simp[a,b] <;> omega
section
variable {κ β:Type}(key:κ->Int)
def fp(k:κ)(v:β):List (κ×β)->List (κ×β)
 | []=>[(k,v)]
 | (a,w)::r=>if key k<key a then(k,v)::(a,w)::r else if key a<key k then(a,w)::fp k v r else(a,v)::r
def ib(k:κ):List (κ×β)->List (κ×β)
 | []=>[]
 | (a,w)::r=>if key a=key k then r else(a,w)::ib k r
def below(k:κ):List (κ×β)->Nat
 | []=>0
 | (a,_)::r=>if key a<key k then below k r+1 else 0
def dq(k:κ):List (κ×β)->Option β
 | []=>none
 | (a,w)::r=>if key a=key k then some w else dq k r
def Srt(l:List (κ×β)):Prop:=l.Pairwise (fun p q=>key p.1<key q.1)
variable {key}
theorem Srt.nil:Srt key ([]:List (κ×β)):=List.Pairwise.nil
theorem Srt.split{L R:List (κ×β)}{a:κ}{w:β}(h:Srt key (L++(a,w)::R)):Srt key L/\Srt key R/\(∀p,p∈L->key p.1<key a)/\(∀p,p∈R->key a<key p.1):=by
 unfold Srt at h;rw[ve,ww]at h;exact⟨h.1,h.2.1.2,fun p b=>h.2.2 p b (a,w) (by simp),h.2.1.1⟩
theorem rK{k:κ}{v:β}{X:List (κ×β)}:∀{L:List (κ×β)},(∀p,p∈L->key p.1<key k)->fp key k v (L++X)=L++fp key k v X
 | [],_=>rfl
 | (a,w)::r,h=>by
  have b:=h (a,w) (by simp);have b:key a<key k:=b;show fp key k v ((a,w)::(r++X))=_;rw[fp,zq (by omega),zv b,rK (fun p c=>h p (by simp[c]))];rfl
theorem CR{k a:κ}{v w:β}{R:List (κ×β)}(h:key k<key a):∀(L:List (κ×β)),fp key k v (L++(a,w)::R)=fp key k v L++(a,w)::R
 | []=>by simp[fp,h]
 | (b,u)::r=>by
  show fp key k v ((b,u)::(r++(a,w)::R))=_;rw[fp,fp];split
  ·rfl
  ·split
   ·rw[CR h r];rfl
   ·rfl
theorem JO{k a:κ}{v w:β}{R:List (κ×β)}(h:key a=key k):fp key k v ((a,w)::R)=(a,v)::R:=by
 rw[fp,zq (by omega),zq (by omega)]
theorem rL{k:κ}{X:List (κ×β)}:∀{L:List (κ×β)},(∀p,p∈L->key p.1<key k)->ib key k (L++X)=L++ib key k X
 | [],_=>rfl
 | (a,w)::r,h=>by
  have c:key a<key k:=h (a,w) (by simp);show ib key k ((a,w)::(r++X))=_;rw[ib,zq (by omega),rL (fun p b=>h p (by simp[b]))];rfl
theorem pT{k:κ}:∀{R:List (κ×β)},(∀p,p∈R->key k<key p.1)->ib key k R=R
 | [],_=>rfl
 | (a,w)::r,h=>by
  have c:key k<key a:=h (a,w) (by simp);rw[ib,zq (by omega),pT (fun p b=>h p (by simp[b]))]
theorem DL{k a:κ}{w:β}{R:List (κ×β)}(h:key k<key a)(hR:∀p,p∈R->key a<key p.1):∀(L:List (κ×β)),ib key k (L++(a,w)::R)=ib key k L++(a,w)::R
 | []=>by
  show ib key k ((a,w)::R)=(a,w)::R;rw[ib,zq (by omega),pT (fun p c=>by have:=hR p c;omega)]
 | (b,u)::r=>by
  show ib key k ((b,u)::(r++(a,w)::R))=_;rw[ib,ib];split
  ·rfl
  ·rw[DL h hR r];rfl
theorem Iq{k a:κ}{w:β}{R:List (κ×β)}(h:key a=key k):ib key k ((a,w)::R)=R:=by rw[ib,zv h]
theorem nT{k:κ}{X:List (κ×β)}:∀{L:List (κ×β)},(∀p,p∈L->key p.1<key k)->below key k (L++X)=L.length+below key k X
 | [],_=>by simp
 | (a,w)::r,h=>by
  have b:key a<key k:=h (a,w) (by simp);show below key k ((a,w)::(r++X))=_;rw[below,zv b,nT (fun p c=>h p (by simp[c]))]
  simp;omega
theorem uG{k a:κ}{w:β}{R:List (κ×β)}(h:¬ key a<key k):∀(L:List (κ×β)),below key k (L++(a,w)::R)=below key k L
 | []=>by simp[below,h]
 | (b,u)::r=>by
  show below key k ((b,u)::(r++(a,w)::R))=_;rw[below,below];split
  ·rw[uG h r]
  ·rfl
theorem rM{k:κ}{X:List (κ×β)}:∀{L:List (κ×β)},(∀p,p∈L->key p.1<key k)->dq key k (L++X)=dq key k X
 | [],_=>rfl
 | (a,w)::r,h=>by
  have c:key a<key k:=h (a,w) (by simp);show dq key k ((a,w)::(r++X))=_;rw[dq,zq (by omega),rM (fun p b=>h p (by simp[b]))]
theorem kJ{k:κ}:∀{R:List (κ×β)},(∀p,p∈R->key k<key p.1)->dq key k R=none
 | [],_=>rfl
 | (a,w)::r,h=>by
  have c:key k<key a:=h (a,w) (by simp);rw[dq,zq (by omega),kJ (fun p b=>h p (by simp[b]))]
theorem CP{k a:κ}{w:β}{R:List (κ×β)}(h:key k<key a)(hR:∀p,p∈R->key a<key p.1):∀(L:List (κ×β)),dq key k (L++(a,w)::R)=dq key k L
 | []=>by
  show dq key k ((a,w)::R)=none;rw[dq,zq (by omega),kJ (fun p c=>by have:=hR p c;omega)]
 | (b,u)::r=>by
  show dq key k ((b,u)::(r++(a,w)::R))=_;rw[dq,dq];split
  ·rfl
  ·rw[CP h hR r]
theorem Fp{k a:κ}{w:β}{R:List (κ×β)}(h:key a=key k):dq key k ((a,w)::R)=some w:=by rw[dq,zv h]
theorem uH{k:κ}{v:β}{p:κ×β}:∀{L:List (κ×β)},p∈fp key k v L->key p.1=key k∨p∈L
 | [],h=>by rw[fp,zy]at h;exact .inl (by rw[h])
 | (a,w)::r,h=>by
  rw[fp]at h;split at h
  ·rcases List.mem_cons.1 h with rfl|h
   ·exact .inl rfl
   ·exact .inr h
  ·split at h
   ·rcases List.mem_cons.1 h with rfl|h
    ·exact .inr (by simp)
    ·rcases uH h with h|h
     ·exact .inl h
     ·exact .inr (by simp[h])
   ·rcases List.mem_cons.1 h with rfl|h
    ·exact .inl (by show key a=key k;omega)
    ·exact .inr (by simp[h])
theorem Srt.ins{k:κ}{v:β}:∀{L:List (κ×β)},Srt key L->Srt key (fp key k v L)
 | [],_=>by rw[fp];exact List.pairwise_singleton _ _
 | (a,w)::r,h=>by
  unfold Srt at h;rw[ww]at h;rw[fp];unfold Srt;split
  ·rename_i c;rw[ww,ww];refine⟨fun p b=>?_,h⟩;rcases List.mem_cons.1 b with rfl|b
   ·exact c
   ·have:=h.1 p b
    show key k<key p.1;have:key a<key p.1:=this;omega
  ·split
   ·rename_i d;rw[ww];refine⟨fun p b=>?_,Srt.ins h.2⟩;rcases uH b with e|b
    ·show key a<key p.1;omega
    ·exact h.1 p b
   ·rw[ww];exact h
theorem nU{k:κ}{p:κ×β}:∀{L:List (κ×β)},p∈ib key k L->p∈L
 | [],h=>h
 | (a,w)::r,h=>by
  rw[ib]at h;split at h
  ·simp[h]
  ·rcases List.mem_cons.1 h with rfl|h
   ·simp
   ·simp[nU h]
theorem Srt.del{k:κ}:∀{L:List (κ×β)},Srt key L->Srt key (ib key k L)
 | [],h=>h
 | (a,w)::r,h=>by
  unfold Srt at h;rw[ww]at h;rw[ib];split
  ·exact h.2
  ·unfold Srt;rw[ww];exact⟨fun p b=>h.1 p (nU b),Srt.del h.2⟩
theorem eR{k:κ}{v:β}:∀{L:List (κ×β)},Srt key L->(fp key k v L).length=L.length+(if (dq key k L).isSome then 0 else 1)
 | [],_=>rfl
 | (a,w)::r,h=>by
  unfold Srt at h;rw[ww]at h;rw[fp,dq];by_cases c:key k<key a
  ·have b:¬ key a=key k:=(by omega);rw[zv c,zq b,kJ (fun p e=>by have:key a<key p.1:=h.1 p e;omega)]
   simp
  ·rw[zq c];by_cases d:key a<key k
   ·have b:¬ key a=key k:=(by omega);rw[zv d,zq b,xe,eR h.2,xe];omega
   ·have b:key a=key k:=(by omega);rw[zq d,zv b]
    simp
theorem eS{k:κ}:∀{L:List (κ×β)},(ib key k L).length+(if (dq key k L).isSome then 1 else 0)=L.length
 | []=>rfl
 | (a,w)::r=>by
  rw[ib,dq];split
  ·simp
  ·rw[xe,xe,<-eS (k:=k) (L:=r)];omega
end
