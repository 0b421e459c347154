import Derived.Test.YthlccadnojnkaaaGreatZk1
import Derived.Test.YthlccadnojnkaaaGreatProg
namespace Go.Proofs.YthlccadnojnkaaaGreat.Co
inductive T (κ β:Type) where
 | nil
 | nd (k:κ) (v:β) (l r:T κ β)
namespace T
variable {κ β:Type}
def size:T κ β->Nat
 | nil=>0
 | nd _ _ l r=>l.size+1+r.size
def toL:T κ β->List (κ×β)
 | nil=>[]
 | nd k v l r=>l.toL++(k,v)::r.toL
theorem len (t:T κ β):t.toL.length=t.size:=by
 induction t with
 | nil=>rfl
 | nd k v l r hl hr=>simp only[toL,size,List.length_append,List.length_cons,hl,hr];omega
theorem toL_nil {t:T κ β} (h:t.toL=[]):t=nil:=by
 cases t with
 | nil=>rfl
 | nd k v l r=>simp[toL] at h
end T
def cmp3 (x y:Int):Int:=if x<y then -1 else if y<x then 1 else 0
theorem nR {x y:Int}:cmp3 x y<0↔x<y:=by unfold cmp3;by_cases h1:x<y <;> by_cases h2:y<x <;> simp[h1,h2]
theorem nS {x y:Int}:0<cmp3 x y↔y<x:=by unfold cmp3;by_cases h1:x<y <;> by_cases h2:y<x <;> simp[h1,h2];omega
theorem gM {x y:Int}:cmp3 x y=0↔x=y:=by unfold cmp3;by_cases h1:x<y <;> by_cases h2:y<x <;> simp[h1,h2] <;> omega
section
variable {κ β:Type} (key:κ->Int)
def insL (k:κ) (v:β):List (κ×β)->List (κ×β)
 | []=>[(k,v)]
 | (a,w)::r=>if key k<key a then (k,v)::(a,w)::r else if key a<key k then (a,w)::insL k v r else (a,v)::r
def delL (k:κ):List (κ×β)->List (κ×β)
 | []=>[]
 | (a,w)::r=>if key a=key k then r else (a,w)::delL k r
def below (k:κ):List (κ×β)->Nat
 | []=>0
 | (a,_)::r=>if key a<key k then below k r+1 else 0
def getL (k:κ):List (κ×β)->Option β
 | []=>none
 | (a,w)::r=>if key a=key k then some w else getL k r
def Srt (l:List (κ×β)):Prop:=l.Pairwise (fun p q=>key p.1<key q.1)
variable {key}
theorem Srt.nil:Srt key ([]:List (κ×β)):=List.Pairwise.nil
theorem Srt.split {L R:List (κ×β)} {a:κ} {w:β} (h:Srt key (L++(a,w)::R)):Srt key L/\Srt key R/\(∀ p,p∈L->key p.1<key a)/\(∀ p,p∈R->key a<key p.1):=by
 unfold Srt at h;rw[List.pairwise_append,List.pairwise_cons] at h;exact⟨h.1,h.2.1.2,fun p hp=>h.2.2 p hp (a,w) (by simp),h.2.1.1⟩
theorem rK {k:κ} {v:β} {X:List (κ×β)}:∀ {L:List (κ×β)},(∀ p,p∈L->key p.1<key k)->insL key k v (L++X)=L++insL key k v X
 | [],_=>rfl
 | (a,w)::r,h=>by
  have ha:=h (a,w) (by simp);have ha:key a<key k:=ha;show insL key k v ((a,w)::(r++X))=_;rw[insL,if_neg (by omega),if_pos ha,rK (fun p hp=>h p (by simp[hp]))];rfl
theorem aAl {k a:κ} {v w:β} {R:List (κ×β)} (h:key k<key a):∀ (L:List (κ×β)),insL key k v (L++(a,w)::R)=insL key k v L++(a,w)::R
 | []=>by simp[insL,h]
 | (b,u)::r=>by
  show insL key k v ((b,u)::(r++(a,w)::R))=_;rw[insL,insL];split
  ·rfl
  ·split
   ·rw[aAl h r];rfl
   ·rfl
theorem aFz {k a:κ} {v w:β} {R:List (κ×β)} (h:key a=key k):insL key k v ((a,w)::R)=(a,v)::R:=by
 rw[insL,if_neg (by omega),if_neg (by omega)]
theorem rL {k:κ} {X:List (κ×β)}:∀ {L:List (κ×β)},(∀ p,p∈L->key p.1<key k)->delL key k (L++X)=L++delL key k X
 | [],_=>rfl
 | (a,w)::r,h=>by
  have ha:key a<key k:=h (a,w) (by simp);show delL key k ((a,w)::(r++X))=_;rw[delL,if_neg (by omega),rL (fun p hp=>h p (by simp[hp]))];rfl
theorem pT {k:κ}:∀ {R:List (κ×β)},(∀ p,p∈R->key k<key p.1)->delL key k R=R
 | [],_=>rfl
 | (a,w)::r,h=>by
  have ha:key k<key a:=h (a,w) (by simp);rw[delL,if_neg (by omega),pT (fun p hp=>h p (by simp[hp]))]
theorem aAm {k a:κ} {w:β} {R:List (κ×β)} (h:key k<key a) (hR:∀ p,p∈R->key a<key p.1):∀ (L:List (κ×β)),delL key k (L++(a,w)::R)=delL key k L++(a,w)::R
 | []=>by
  show delL key k ((a,w)::R)=(a,w)::R;rw[delL,if_neg (by omega),pT (fun p hp=>by have:=hR p hp;omega)]
 | (b,u)::r=>by
  show delL key k ((b,u)::(r++(a,w)::R))=_;rw[delL,delL];split
  ·rfl
  ·rw[aAm h hR r];rfl
theorem aFA {k a:κ} {w:β} {R:List (κ×β)} (h:key a=key k):delL key k ((a,w)::R)=R:=by rw[delL,if_pos h]
theorem nT {k:κ} {X:List (κ×β)}:∀ {L:List (κ×β)},(∀ p,p∈L->key p.1<key k)->below key k (L++X)=L.length+below key k X
 | [],_=>by simp
 | (a,w)::r,h=>by
  have ha:key a<key k:=h (a,w) (by simp);show below key k ((a,w)::(r++X))=_;rw[below,if_pos ha,nT (fun p hp=>h p (by simp[hp]))]
  simp;omega
theorem uG {k a:κ} {w:β} {R:List (κ×β)} (h:¬ key a<key k):∀ (L:List (κ×β)),below key k (L++(a,w)::R)=below key k L
 | []=>by simp[below,h]
 | (b,u)::r=>by
  show below key k ((b,u)::(r++(a,w)::R))=_;rw[below,below];split
  ·rw[uG h r]
  ·rfl
theorem rM {k:κ} {X:List (κ×β)}:∀ {L:List (κ×β)},(∀ p,p∈L->key p.1<key k)->getL key k (L++X)=getL key k X
 | [],_=>rfl
 | (a,w)::r,h=>by
  have ha:key a<key k:=h (a,w) (by simp);show getL key k ((a,w)::(r++X))=_;rw[getL,if_neg (by omega),rM (fun p hp=>h p (by simp[hp]))]
theorem kJ {k:κ}:∀ {R:List (κ×β)},(∀ p,p∈R->key k<key p.1)->getL key k R=none
 | [],_=>rfl
 | (a,w)::r,h=>by
  have ha:key k<key a:=h (a,w) (by simp);rw[getL,if_neg (by omega),kJ (fun p hp=>h p (by simp[hp]))]
theorem aAn {k a:κ} {w:β} {R:List (κ×β)} (h:key k<key a) (hR:∀ p,p∈R->key a<key p.1):∀ (L:List (κ×β)),getL key k (L++(a,w)::R)=getL key k L
 | []=>by
  show getL key k ((a,w)::R)=none;rw[getL,if_neg (by omega),kJ (fun p hp=>by have:=hR p hp;omega)]
 | (b,u)::r=>by
  show getL key k ((b,u)::(r++(a,w)::R))=_;rw[getL,getL];split
  ·rfl
  ·rw[aAn h hR r]
theorem aFB {k a:κ} {w:β} {R:List (κ×β)} (h:key a=key k):getL key k ((a,w)::R)=some w:=by rw[getL,if_pos h]
theorem uH {k:κ} {v:β} {p:κ×β}:∀ {L:List (κ×β)},p∈insL key k v L->key p.1=key k∨p∈L
 | [],h=>by rw[insL,List.mem_singleton] at h;exact .inl (by rw[h])
 | (a,w)::r,h=>by
  rw[insL] at h;split at h
  ·rcases List.mem_cons.1 h with rfl|h
   ·exact .inl rfl
   ·exact .inr h
  ·split at h
   ·rcases List.mem_cons.1 h with rfl|h
    ·exact .inr (by simp)
    ·rcases uH h with h|h
     ·exact .inl h
     ·exact .inr (by simp[h])
   ·rcases List.mem_cons.1 h with rfl|h
    ·exact .inl (by show key a=key k;omega)
    ·exact .inr (by simp[h])
theorem Srt.ins {k:κ} {v:β}:∀ {L:List (κ×β)},Srt key L->Srt key (insL key k v L)
 | [],_=>by rw[insL];exact List.pairwise_singleton _ _
 | (a,w)::r,h=>by
  unfold Srt at h;rw[List.pairwise_cons] at h;rw[insL];unfold Srt;split
  ·rename_i hka;rw[List.pairwise_cons,List.pairwise_cons];refine⟨fun p hp=>?_,h⟩;rcases List.mem_cons.1 hp with rfl|hp
   ·exact hka
   ·have:=h.1 p hp
    show key k<key p.1;have:key a<key p.1:=this;omega
  ·split
   ·rename_i hak;rw[List.pairwise_cons];refine⟨fun p hp=>?_,Srt.ins h.2⟩;rcases uH hp with e|hp
    ·show key a<key p.1;omega
    ·exact h.1 p hp
   ·rw[List.pairwise_cons];exact h
theorem nU {k:κ} {p:κ×β}:∀ {L:List (κ×β)},p∈delL key k L->p∈L
 | [],h=>h
 | (a,w)::r,h=>by
  rw[delL] at h;split at h
  ·simp[h]
  ·rcases List.mem_cons.1 h with rfl|h
   ·simp
   ·simp[nU h]
theorem Srt.del {k:κ}:∀ {L:List (κ×β)},Srt key L->Srt key (delL key k L)
 | [],h=>h
 | (a,w)::r,h=>by
  unfold Srt at h;rw[List.pairwise_cons] at h;rw[delL];split
  ·exact h.2
  ·unfold Srt;rw[List.pairwise_cons];exact⟨fun p hp=>h.1 p (nU hp),Srt.del h.2⟩
theorem eR {k:κ} {v:β}:∀ {L:List (κ×β)},Srt key L->(insL key k v L).length=L.length+(if (getL key k L).isSome then 0 else 1)
 | [],_=>rfl
 | (a,w)::r,h=>by
  unfold Srt at h;rw[List.pairwise_cons] at h;rw[insL,getL];by_cases h1:key k<key a
  ·have hn:¬ key a=key k:=(by omega);rw[if_pos h1,if_neg hn,kJ (fun p hp=>by have:key a<key p.1:=h.1 p hp;omega)]
   simp
  ·rw[if_neg h1];by_cases h2:key a<key k
   ·have hn:¬ key a=key k:=(by omega);rw[if_pos h2,if_neg hn,List.length_cons,eR h.2,List.length_cons];omega
   ·have hn:key a=key k:=(by omega);rw[if_neg h2,if_pos hn]
    simp
theorem eS {k:κ}:∀ {L:List (κ×β)},(delL key k L).length+(if (getL key k L).isSome then 1 else 0)=L.length
 | []=>rfl
 | (a,w)::r=>by
  rw[delL,getL];split
  ·simp
  ·rw[List.length_cons,List.length_cons,<- eS (k:=k) (L:=r)];omega
end
