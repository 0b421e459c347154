import Derived.Test.YtkchgbjoeggdbaaGreatZn1
import Derived.Test.YtkchgbjoeggdbaaGreatProg
namespace Go.Proofs.YtkchgbjoeggdbaaGreat.Co
inductive T (κ β:Type) where
 | nil
 | nd (k:κ) (v:β) (l r:T κ β)
namespace T
variable{κ β:Type}
def size:T κ β->Nat
 | nil=>0
 | nd _ _ l r=>l.size+1+r.size
def az:T κ β->List (κ×β)
 | nil=>[]
 | nd k v l r=>l.az++(k,v)::r.az
theorem len(t:T κ β):t.az.length=t.size:=by
 induction t with
 | nil=>rfl
 | nd k v l r hl hr=>simp only[az,size,y6,xa,hl,hr];omega
theorem pz{t:T κ β}(h:t.az=[]):t=nil:=by
 cases t with
 | nil=>rfl
 | nd k v l r=>simp[az]at h
end T
def cy(x y:Int):Int:=if x<y then -1 else if y<x then 1 else 0
theorem fF{x y:Int}:cy x y<0↔x<y:=by unfold cy;by_cases a:x<y <;> by_cases b:y<x <;> simp[a,b]
theorem fG{x y:Int}:0<cy x y↔y<x:=by unfold cy;by_cases a:x<y <;> by_cases b:y<x <;> simp[a,b];omega
theorem cE{x y:Int}:cy x y=0↔x=y:=by unfold cy;by_cases a:x<y <;> by_cases b:y<x <;> simp[a,b] <;> omega
section
variable{κ β:Type}(key:κ->Int)
def bn(k:κ)(v:β):List (κ×β)->List (κ×β)
 | []=>[(k,v)]
 | (a,w)::r=>if key k<key a then(k,v)::(a,w)::r else if key a<key k then(a,w)::bn k v r else(a,v)::r
def gg(k:κ):List (κ×β)->List (κ×β)
 | []=>[]
 | (a,w)::r=>if key a=key k then r else(a,w)::gg k r
def below(k:κ):List (κ×β)->Nat
 | []=>0
 | (a,_)::r=>if key a<key k then below k r+1 else 0
def ak(k:κ):List (κ×β)->Option β
 | []=>none
 | (a,w)::r=>if key a=key k then some w else ak k r
def Srt(l:List (κ×β)):Prop:=l.Pairwise (fun p q=>key p.1<key q.1)
variable{key}
theorem Srt.nil:Srt key ([]:List (κ×β)):=List.Pairwise.nil
theorem Srt.split{L R:List (κ×β)}{a:κ}{w:β}(h:Srt key (L++(a,w)::R)):Srt key L/\Srt key R/\(∀p,p∈L->key p.1<key a)/\(∀p,p∈R->key a<key p.1):=by
 unfold Srt at h;rw[List.pairwise_append,wk]at h;exact⟨h.1,h.2.1.2,fun p b=>h.2.2 p b (a,w) (by simp),h.2.1.1⟩
theorem jA{k:κ}{v:β}{X:List (κ×β)}:∀{L:List (κ×β)},(∀p,p∈L->key p.1<key k)->bn key k v (L++X)=L++bn key k v X
 | [],_=>rfl
 | (a,w)::r,h=>by
  have b:=h (a,w) (by simp);have b:key a<key k:=b;show bn key k v ((a,w)::(r++X))=_;rw[bn,zu (by omega),zw b,jA (fun p c=>h p (by simp[c]))];rfl
theorem qO{k a:κ}{v w:β}{R:List (κ×β)}(h:key k<key a):∀(L:List (κ×β)),bn key k v (L++(a,w)::R)=bn key k v L++(a,w)::R
 | []=>by simp[bn,h]
 | (b,u)::r=>by
  show bn key k v ((b,u)::(r++(a,w)::R))=_;rw[bn,bn];split
  ·rfl
  ·split
   ·rw[qO h r];rfl
   ·rfl
theorem yN{k a:κ}{v w:β}{R:List (κ×β)}(h:key a=key k):bn key k v ((a,w)::R)=(a,v)::R:=by
 rw[bn,zu (by omega),zu (by omega)]
theorem qP{k:κ}{X:List (κ×β)}:∀{L:List (κ×β)},(∀p,p∈L->key p.1<key k)->gg key k (L++X)=L++gg key k X
 | [],_=>rfl
 | (a,w)::r,h=>by
  have c:key a<key k:=h (a,w) (by simp);show gg key k ((a,w)::(r++X))=_;rw[gg,zu (by omega),qP (fun p b=>h p (by simp[b]))];rfl
theorem oZ{k:κ}:∀{R:List (κ×β)},(∀p,p∈R->key k<key p.1)->gg key k R=R
 | [],_=>rfl
 | (a,w)::r,h=>by
  have c:key k<key a:=h (a,w) (by simp);rw[gg,zu (by omega),oZ (fun p b=>h p (by simp[b]))]
theorem yO{k a:κ}{w:β}{R:List (κ×β)}(h:key k<key a)(hR:∀p,p∈R->key a<key p.1):∀(L:List (κ×β)),gg key k (L++(a,w)::R)=gg key k L++(a,w)::R
 | []=>by
  show gg key k ((a,w)::R)=(a,w)::R;rw[gg,zu (by omega),oZ (fun p c=>by have:=hR p c;omega)]
 | (b,u)::r=>by
  show gg key k ((b,u)::(r++(a,w)::R))=_;rw[gg,gg];split
  ·rfl
  ·rw[yO h hR r];rfl
theorem Hb{k a:κ}{w:β}{R:List (κ×β)}(h:key a=key k):gg key k ((a,w)::R)=R:=by rw[gg,zw h]
theorem fH{k:κ}{X:List (κ×β)}:∀{L:List (κ×β)},(∀p,p∈L->key p.1<key k)->below key k (L++X)=L.length+below key k X
 | [],_=>by simp
 | (a,w)::r,h=>by
  have b:key a<key k:=h (a,w) (by simp);show below key k ((a,w)::(r++X))=_;rw[below,zw b,fH (fun p c=>h p (by simp[c]))]
  simp;omega
theorem nI{k a:κ}{w:β}{R:List (κ×β)}(h:¬ key a<key k):∀(L:List (κ×β)),below key k (L++(a,w)::R)=below key k L
 | []=>by simp[below,h]
 | (b,u)::r=>by
  show below key k ((b,u)::(r++(a,w)::R))=_;rw[below,below];split
  ·rw[nI h r]
  ·rfl
theorem jB{k:κ}{X:List (κ×β)}:∀{L:List (κ×β)},(∀p,p∈L->key p.1<key k)->ak key k (L++X)=ak key k X
 | [],_=>rfl
 | (a,w)::r,h=>by
  have c:key a<key k:=h (a,w) (by simp);show ak key k ((a,w)::(r++X))=_;rw[ak,zu (by omega),jB (fun p b=>h p (by simp[b]))]
theorem jT{k:κ}:∀{R:List (κ×β)},(∀p,p∈R->key k<key p.1)->ak key k R=none
 | [],_=>rfl
 | (a,w)::r,h=>by
  have c:key k<key a:=h (a,w) (by simp);rw[ak,zu (by omega),jT (fun p b=>h p (by simp[b]))]
theorem qQ{k a:κ}{w:β}{R:List (κ×β)}(h:key k<key a)(hR:∀p,p∈R->key a<key p.1):∀(L:List (κ×β)),ak key k (L++(a,w)::R)=ak key k L
 | []=>by
  show ak key k ((a,w)::R)=none;rw[ak,zu (by omega),jT (fun p c=>by have:=hR p c;omega)]
 | (b,u)::r=>by
  show ak key k ((b,u)::(r++(a,w)::R))=_;rw[ak,ak];split
  ·rfl
  ·rw[qQ h hR r]
theorem yP{k a:κ}{w:β}{R:List (κ×β)}(h:key a=key k):ak key k ((a,w)::R)=some w:=by rw[ak,zw h]
theorem tR{k:κ}{v:β}{p:κ×β}:∀{L:List (κ×β)},p∈bn key k v L->key p.1=key k∨p∈L
 | [],h=>by rw[bn,zz]at h;exact .inl (by rw[h])
 | (a,w)::r,h=>by
  rw[bn]at h;split at h
  ·rcases List.mem_cons.1 h with rfl|h
   ·exact .inl rfl
   ·exact .inr h
  ·split at h
   ·rcases List.mem_cons.1 h with rfl|h
    ·exact .inr (by simp)
    ·rcases tR h with h|h
     ·exact .inl h
     ·exact .inr (by simp[h])
   ·rcases List.mem_cons.1 h with rfl|h
    ·exact .inl (by show key a=key k;omega)
    ·exact .inr (by simp[h])
theorem Srt.ins{k:κ}{v:β}:∀{L:List (κ×β)},Srt key L->Srt key (bn key k v L)
 | [],_=>by rw[bn];exact List.pairwise_singleton _ _
 | (a,w)::r,h=>by
  unfold Srt at h;rw[wk]at h;rw[bn];unfold Srt;split
  ·rename_i c;rw[wk,wk];refine⟨fun p b=>?_,h⟩;rcases List.mem_cons.1 b with rfl|b
   ·exact c
   ·have:=h.1 p b
    show key k<key p.1;have:key a<key p.1:=this;omega
  ·split
   ·rename_i d;rw[wk];refine⟨fun p b=>?_,Srt.ins h.2⟩;rcases tR b with e|b
    ·show key a<key p.1;omega
    ·exact h.1 p b
   ·rw[wk];exact h
theorem nJ{k:κ}{p:κ×β}:∀{L:List (κ×β)},p∈gg key k L->p∈L
 | [],h=>h
 | (a,w)::r,h=>by
  rw[gg]at h;split at h
  ·simp[h]
  ·rcases List.mem_cons.1 h with rfl|h
   ·simp
   ·simp[nJ h]
theorem Srt.del{k:κ}:∀{L:List (κ×β)},Srt key L->Srt key (gg key k L)
 | [],h=>h
 | (a,w)::r,h=>by
  unfold Srt at h;rw[wk]at h;rw[gg];split
  ·exact h.2
  ·unfold Srt;rw[wk];exact⟨fun p b=>h.1 p (nJ b),Srt.del h.2⟩
theorem bY{k:κ}{v:β}:∀{L:List (κ×β)},Srt key L->(bn key k v L).length=L.length+(if (ak key k L).isSome then 0 else 1)
 | [],_=>rfl
 | (a,w)::r,h=>by
  unfold Srt at h;rw[wk]at h;rw[bn,ak];by_cases c:key k<key a
  ·have b:¬ key a=key k:=(by omega);rw[zw c,zu b,jT (fun p e=>by have:key a<key p.1:=h.1 p e;omega)]
   simp
  ·rw[zu c];by_cases d:key a<key k
   ·have b:¬ key a=key k:=(by omega);rw[zw d,zu b,xa,bY h.2,xa];omega
   ·have b:key a=key k:=(by omega);rw[zu d,zw b]
    simp
theorem eB{k:κ}:∀{L:List (κ×β)},(gg key k L).length+(if (ak key k L).isSome then 1 else 0)=L.length
 | []=>rfl
 | (a,w)::r=>by
  rw[gg,ak];split
  ·simp
  ·rw[xa,xa,<-eB (k:=k) (L:=r)];omega
end
