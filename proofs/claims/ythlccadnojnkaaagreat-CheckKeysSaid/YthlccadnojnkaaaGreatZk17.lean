import Derived.Test.YthlccadnojnkaaaGreatZk16
import Derived.Test.YthlccadnojnkaaaGreatZk2
import Derived.Lib.SliceRun
import Derived.Lib.Walk
import Derived.Lib.Small
import Derived.Laws.Cover1
set_option maxHeartbeats 2000000
set_option maxRecDepth 100000
namespace Go.Proofs.YthlccadnojnkaaaGreat
open Go Go.RowKit Go.Proofs
def mt (e:TypeId):Bool:=!(e==95 || e==9 || e==124)
def eqS (a b:ByteArray):Bool:=a.data.toList==b.data.toList
theorem aR (a b:ByteArray):(a.toList==b.toList)=eqS a b:=by rw[ByteArray.toList_eq,ByteArray.toList_eq];rfl
theorem eZ {a b:ByteArray}:eqS a b=true↔a=b:=by
 unfold eqS;rw[beq_iff_eq];constructor
 ·intro h;cases a;cases b
  congr 1
  exact Array.toList_inj.1 h
 rintro rfl;rfl
section
variable {α:Type} {p:α->Bool}
theorem eN:∀ (l:List α) (j:Nat) (h:j<l.length),p l[j]=true->(∀ i (hi:i<j),p (l[i]'(by omega))=false)->l.find? p=some l[j]/\l.any p=true/\l.findIdx? p=some j
 | [],j,h,_,_=>absurd h (Nat.not_lt_zero j)
 | a::r,0,_,hp,_=>by
  have hp:p a=true:=hp;simp[List.any_cons,List.findIdx?_cons,hp]
 | a::r,j+1,h,hp,hn=>by
  have h0:p a=false:=hn 0 (by omega);have hj:j<r.length:=(by simpa using h);obtain⟨h1,h2,h3⟩:=eN r j hj hp (fun i hi=>hn (i+1) (by omega));refine⟨?_,?_,?_⟩
  ·rw[List.find?_cons,h0];exact h1
  ·rw[List.any_cons,h0];exact h2
  ·rw[List.findIdx?_cons,h0,h3];rfl
theorem iZ (l:List α) (hn:∀ i (hi:i<l.length),p l[i]=false):l.find? p=none/\l.any p=false/\l.findIdx? p=none:=by
 have h:∀ x∈l,p x=false:=fun x hx=>by
  obtain⟨i,hi,rfl⟩:=List.getElem_of_mem hx;exact hn i hi
 refine⟨?_,?_,?_⟩
 ·rw[List.find?_eq_none];intro x hx;simp[h x hx]
 ·rw[List.any_eq_false];intro x hx;simp[h x hx]
 rw[List.findIdx?_eq_none_iff];exact h
end
structure C where
 nm:ByteArray
 kd:Int
 mu:Bool
 tgt:ByteArray
structure D where
 left:List ByteArray
 right:ByteArray
structure T where
 nm:ByteArray
 cols:List C
 key:ByteArray
 deps:List D
abbrev e0:ByteArray:=⟨#[]⟩
def isC (x:ByteArray) (c:C):Bool:=eqS c.nm x
def hasC (l:List C) (x:ByteArray):Bool:=l.any (isC x)
def colOf (l:List C) (x:ByteArray):Option C:=l.find? (isC x)
def ixC (l:List C) (x:ByteArray):Int:=match l.findIdx? (isC x) with|none=>-1|some j=>(j:Int)
def isT (x:ByteArray) (t:T):Bool:=eqS t.nm x
def findT (l:List T) (x:ByteArray):Option T:=l.find? (isT x)
def hasT (l:List T) (x:ByteArray):Bool:=l.any (isT x)
def hasS (l:List ByteArray) (x:ByteArray):Bool:=l.any (eqS x)
def formC (key:ByteArray) (c:C):C:={ c with mu:=c.mu || eqS c.nm key }
def formT (t:T):T:={ t with cols:=t.cols.map (formC t.key) }
def RdX (W:World) (v:Value) (n k:Nat) (xs:List Value):Prop :=
 xs.length=n*k/\∃ p cap,v=.slice p n cap/\n<=cap/\cap<=maxLen/\(∀ a,p=some a->a.spot=none)/\(0<n->∃ b off cur e m,p=some ⟨b,off,none⟩/\W.heap[b]?=some (.cells cur e m)/\e≠116/\mt e=false/\∀ j u,xs[j]?=some u->cur[off+j]?=some u)
def Kp (W W':World):Prop:=∀ (b:Nat) (cur:Array Value) (e:TypeId) (m:Nat×Nat),W.heap[b]?=some (Obj.cells cur e m)->e≠116->mt e=false->W'.heap[b]?=some (Obj.cells cur e m)
theorem Kp.trans {A B C:World} (h:Kp A B) (k:Kp B C):Kp A C:=fun b cur e m x y z=>k b cur e m (h b cur e m x y z) y z
theorem Kp.below {W W':World} (h:Below W.heap.size W W'):Kp W W':=fun b _ _ _ x _ _=>(h.block b (aC x)).trans x
section
variable {W W':World} {v:Value} {n k:Nat} {xs:List Value}
theorem RdX.kp (h:RdX W v n k xs) (hk:Kp W W'):RdX W' v n k xs:=by
 obtain⟨h0,p,cap,h1,h2,h3,hsp,h4⟩:=h;refine⟨h0,p,cap,h1,h2,h3,hsp,fun hn=>?_⟩;obtain⟨b,off,cur,e,m,h5,h6,h7,h8,h9⟩:=h4 hn;exact⟨b,off,cur,e,m,h5,hk b cur e m h6 h7 h8,h7,h8,h9⟩
theorem RdX.slice (h:RdX W v n k xs):∃ p cap,v=.slice p n cap/\n<=cap/\cap<=maxLen:=by
 obtain⟨h0,p,cap,h1,h2,h3,hsp,h4⟩:=h;exact⟨p,cap,h1,h2,h3⟩
theorem RdX.spot {p:Option Addr} {cap:Nat} (h:RdX W (.slice p n cap) n k xs):p=none∨∃ b off,p=some ⟨b,off,none⟩:=by
 obtain⟨h0,p',cap',h1,h2,h3,hsp,h4⟩:=h;obtain⟨rfl,-,rfl⟩:=Value.slice.inj h1;cases p with
 | none=>exact .inl rfl
 | some a =>
  have:=hsp a rfl
  obtain⟨b,off,s⟩:=a;obtain rfl:s=none:=this;exact .inr ⟨b,off,rfl⟩
theorem RdX.at {p:Option Addr} {cap:Nat} (h:RdX W (.slice p n cap) n k xs) (hn:0<n):∃ b off,p=some ⟨b,off,none⟩/\b<W.heap.size/\∀ j u,xs[j]?=some u->W.cell? ⟨b,off+j,none⟩=some u:=by
 obtain⟨h0,p',cap',h1,h2,h3,hsp,h4⟩:=h;obtain⟨rfl,-,rfl⟩:=Value.slice.inj h1;obtain⟨b,off,cur,e,m,h5,h6,h7,h8,h9⟩:=h4 hn;exact⟨b,off,h5,aC h6,fun j u hj=>by simp only[World.cell?,h6];exact h9 j u hj⟩
theorem RdX.take {p:Option Addr} {cap:Nat} (h:RdX W (.slice p n cap) n k xs) {i:Nat} (hi:i<=n):RdX W (.slice p i cap) i k (xs.take (i*k)):=by
 obtain⟨h0,p',cap',h1,h2,h3,hsp,h4⟩:=h;obtain⟨rfl,-,rfl⟩:=Value.slice.inj h1;have hle:i*k<=n*k:=Nat.mul_le_mul_right _ hi;refine⟨by rw[List.length_take,h0];omega,p,cap,rfl,by omega,h3,hsp,fun hn=>?_⟩;obtain⟨b,off,cur,e,m,h5,h6,h7,h8,h9⟩:=h4 (by omega);refine⟨b,off,cur,e,m,h5,h6,h7,h8,fun j u hj=>h9 j u ?_⟩;rw[List.getElem?_take] at hj;split at hj
 ·exact hj
 cases hj
theorem HRow.rdX {base:Nat} {e:TypeId} (h:HRow W base e k v n xs) (h1:e≠116) (h2:mt e=false):RdX W v n k xs:=by
 refine⟨h.1,?_⟩;rcases h.2 with ⟨rfl,rfl⟩ | ⟨g,cap,cur,rfl,hb,hg,hn,hc,hs,ht⟩
 ·exact⟨none,0,rfl,Nat.le_refl _,Nat.zero_le _,fun a h=>(by cases h),fun h=>absurd h (Nat.lt_irrefl _)⟩
 refine⟨some ⟨g,0,none⟩,cap,rfl,hn,hc,fun a h=>(by cases h;rfl),fun _=>⟨g,0,cur,e,_,rfl,hg,h1,h2,fun j u hj=>?_⟩⟩;rw[<- ht,List.getElem?_take] at hj;split at hj
 ·rw[Nat.zero_add,<- Array.getElem?_toList];exact hj
 cases hj
end
def cellsC (l:List C):List Value:=l.flatMap fun c=>[.string c.nm,.int .i64 c.kd,.bool c.mu,.string c.tgt]
def cellsS (l:List ByteArray):List Value:=l.map Value.string
theorem bO (c:C) (r:List C):cellsC (c::r)=.string c.nm::.int .i64 c.kd::.bool c.mu::.string c.tgt::cellsC r:=by simp[cellsC]
theorem gX (xs:List C):(cellsC xs).length=xs.length*4:=by
 induction xs with
 | nil=>rfl
 | cons x r ih=>rw[bO];simp only[List.length_cons,ih];omega
theorem jV (xs:List C) (i:Nat) (h:i<xs.length):(cellsC xs)[i*4]?=some (.string xs[i].nm)/\(cellsC xs)[i*4+1]?=some (.int .i64 xs[i].kd)/\(cellsC xs)[i*4+2]?=some (.bool xs[i].mu)/\(cellsC xs)[i*4+3]?=some (.string xs[i].tgt):=by
 induction xs generalizing i with
 | nil=>simp at h
 | cons y r ih =>
  cases i with
  | zero=>simp[bO]
  | succ i =>
   have:=ih i (by simpa using h)
   rw[bO,show (i+1)*4=i*4+1+1+1+1 by omega,show i*4+1+1+1+1+1=i*4+1+1+1+1+1 by omega,show i*4+1+1+1+1+2=i*4+2+1+1+1+1 by omega,show i*4+1+1+1+1+3=i*4+3+1+1+1+1 by omega];simp only[qFq,List.getElem_cons_succ];exact this
theorem sQ (xs:List C) (i:Nat):(cellsC xs).take (i*4)=cellsC (xs.take i):=by
 induction xs generalizing i with
 | nil=>simp[cellsC]
 | cons y r ih =>
  cases i with
  | zero=>simp[cellsC]
  | succ i=>rw[bO,show (i+1)*4=i*4+1+1+1+1 by omega];simp only[qMq,bO,ih]
def RdC (W:World) (v:Value) (l:List C):Prop:=RdX W v l.length 4 (cellsC l)
def RdS (W:World) (v:Value) (l:List ByteArray):Prop:=RdX W v l.length 1 (cellsS l)
theorem RdC.col {W:World} {p:Option Addr} {n cap:Nat} {l:List C} (h:RdC W (.slice p n cap) l) {i:Nat} (hi:i<l.length):∃ b off,p=some ⟨b,off,none⟩/\b<W.heap.size /\
  W.cell? ⟨b,off+i*4,none⟩=some (.string l[i].nm)/\W.cell? ⟨b,off+i*4+1,none⟩=some (.int .i64 l[i].kd)/\W.cell? ⟨b,off+i*4+2,none⟩=some (.bool l[i].mu)/\W.cell? ⟨b,off+i*4+3,none⟩=some (.string l[i].tgt):=by
 obtain⟨_,_,e,_,_⟩:=RdX.slice h;obtain⟨rfl,rfl,rfl⟩:=Value.slice.inj e;obtain⟨b,off,h1,h2,h3⟩:=RdX.at h (by omega);obtain⟨c0,c1,c2,c3⟩:=jV l i hi;exact⟨b,off,h1,h2,h3 _ _ c0,by rw[Nat.add_assoc];exact h3 _ _ c1,by rw[Nat.add_assoc];exact h3 _ _ c2,by rw[Nat.add_assoc];exact h3 _ _ c3⟩
theorem RdS.word {W:World} {p:Option Addr} {n cap:Nat} {l:List ByteArray} (h:RdS W (.slice p n cap) l) {i:Nat} (hi:i<l.length):∃ b off,p=some ⟨b,off,none⟩/\b<W.heap.size /\
  W.cell? ⟨b,off+i,none⟩=some (.string l[i]):=by
 obtain⟨_,_,e,_,_⟩:=RdX.slice h;obtain⟨rfl,rfl,rfl⟩:=Value.slice.inj e;obtain⟨b,off,h1,h2,h3⟩:=RdX.at h (by omega);exact⟨b,off,h1,h2,h3 _ _ (by unfold cellsS;rw[List.getElem?_map,List.getElem?_eq_getElem hi];rfl)⟩
theorem set4 {x:World} {b:Nat} {a0 a1 a2 a3:Value} {t:TypeId} (h:x.heap[b]?=some (.cells #[a0,a1,a2,a3] t)) (a c d e:Value) :
  ((((x.setCell ⟨b,0,none⟩ a).setCell ⟨b,1,none⟩ c).setCell ⟨b,2,none⟩ d).setCell ⟨b,3,none⟩ e).heap[b]?=some (.cells #[a,c,d,e] t):=by
 rw[heap_setCell_same _ b 3 #[a,c,d,a3] t e (heap_setCell_same _ b 2 #[a,c,a2,a3] t d (heap_setCell_same _ b 1 #[a,a1,a2,a3] t c (heap_setCell_same _ b 0 #[a0,a1,a2,a3] t a h)))];rfl
theorem bD {n b:Nat} {A x:World} (h:Below n A x) (hb:n<=b) (a c d e:Value):Below n A ((((x.setCell ⟨b,0,none⟩ a).setCell ⟨b,1,none⟩ c).setCell ⟨b,2,none⟩ d).setCell ⟨b,3,none⟩ e) :=
 (((h.setCell (p:=⟨b,0,none⟩) hb a).setCell (p:=⟨b,1,none⟩) hb c).setCell (p:=⟨b,2,none⟩) hb d).setCell (p:=⟨b,3,none⟩) hb e
theorem dH {x:World} {b:Nat} {o u:Obj} (h:x.heap[b]?=some o):(x.alloc u).heap[b]?=some o:=(Below.heap_alloc x u b (aC h)).trans h
theorem RdC.slice {W:World} {v:Value} {l:List C} (h:RdC W v l):∃ p cap,v=.slice p l.length cap/\l.length<=cap/\cap<=maxLen:=RdX.slice h
theorem RdS.slice {W:World} {v:Value} {l:List ByteArray} (h:RdS W v l):∃ p cap,v=.slice p l.length cap/\l.length<=cap/\cap<=maxLen:=RdX.slice h
theorem RdC.take {W:World} {p:Option Addr} {n cap:Nat} {l:List C} (h:RdC W (.slice p n cap) l) {i:Nat} (hi:i<=n):RdC W (.slice p i cap) (l.take i):=by
 obtain⟨_,_,e,_,_⟩:=RdX.slice h;obtain⟨-,rfl,-⟩:=Value.slice.inj e
 have:=RdX.take h hi
 unfold RdC;rw[<- sQ,List.length_take,Nat.min_eq_left hi];exact this
theorem RdS.take {W:World} {p:Option Addr} {n cap:Nat} {l:List ByteArray} (h:RdS W (.slice p n cap) l) {i:Nat} (hi:i<=n):RdS W (.slice p i cap) (l.take i):=by
 obtain⟨_,_,e,_,_⟩:=RdX.slice h;obtain⟨-,rfl,-⟩:=Value.slice.inj e
 have:=RdX.take h hi
 unfold RdS;rw[List.length_take,Nat.min_eq_left hi];unfold cellsS at this ⊢;rw[Nat.mul_one,<- List.map_take] at this;exact this
def cellsD:List Value->List D->List Value
 | p::ps,d::ds=>p::.string d.right::cellsD ps ds
 | _,_=>[]
theorem pD:∀ (ps:List Value) (ds:List D) (i:Nat) (h:i<ps.length) (h':i<ds.length),(cellsD ps ds)[i*2]?=some ps[i]/\(cellsD ps ds)[i*2+1]?=some (.string ds[i].right)
 | [],_,_,h,_=>absurd h (Nat.not_lt_zero _)
 | _::_,[],_,_,h=>absurd h (Nat.not_lt_zero _)
 | p::ps,d::ds,0,_,_=>⟨rfl,rfl⟩
 | p::ps,d::ds,i+1,h,h'=>by
  have:=pD ps ds i (by simpa using h) (by simpa using h')
  rw[show (i+1)*2=i*2+1+1 by omega];simp only[cellsD,qFq,List.getElem_cons_succ];exact this
theorem gU:∀ (ps:List Value) (ds:List D) (q:List Value) (es:List D),ps.length=ds.length->cellsD (ps++q) (ds++es)=cellsD ps ds++cellsD q es
 | [],[],_,_,_=>rfl
 | [],_::_,_,_,h=>by simp at h
 | _::_,[],_,_,h=>by simp at h
 | p::ps,d::ds,q,es,h=>by
  have:=gU ps ds q es (by simpa using h)
  simp only[List.cons_append,cellsD,this]
def RdD (W:World) (v:Value) (ds:List D):Prop:=∃ ps:List Value,ps.length=ds.length/\RdX W v ds.length 2 (cellsD ps ds)/\∀ j (h:j<ps.length) (h':j<ds.length),RdS W ps[j] ds[j].left
theorem RdC.kp {W W':World} {v:Value} {l:List C} (h:RdC W v l) (hk:Kp W W'):RdC W' v l:=RdX.kp h hk
theorem RdC.later {W W':World} {v:Value} {l:List C} (h:RdC W v l) (hb:Below W.heap.size W W'):RdC W' v l:=RdX.kp h (.below hb)
theorem RdS.kp {W W':World} {v:Value} {l:List ByteArray} (h:RdS W v l) (hk:Kp W W'):RdS W' v l:=RdX.kp h hk
theorem RdS.later {W W':World} {v:Value} {l:List ByteArray} (h:RdS W v l) (hb:Below W.heap.size W W'):RdS W' v l:=RdX.kp h (.below hb)
theorem RdD.kp {W W':World} {v:Value} {ds:List D} (h:RdD W v ds) (hk:Kp W W'):RdD W' v ds:=by
 obtain⟨ps,h1,h2,h3⟩:=h;exact⟨ps,h1,RdX.kp h2 hk,fun j a b=>(h3 j a b).kp hk⟩
theorem RdD.later {W W':World} {v:Value} {ds:List D} (h:RdD W v ds) (hb:Below W.heap.size W W'):RdD W' v ds:=h.kp (.below hb)
theorem RdD.slice {W:World} {v:Value} {ds:List D} (h:RdD W v ds):∃ p cap,v=.slice p ds.length cap/\ds.length<=cap/\cap<=maxLen:=by
 obtain⟨ps,h1,h2,h3⟩:=h;exact RdX.slice h2
theorem RdD.dep {W:World} {p:Option Addr} {n cap:Nat} {ds:List D} (h:RdD W (.slice p n cap) ds) {i:Nat} (hi:i<ds.length):∃ b off lv,p=some ⟨b,off,none⟩/\b<W.heap.size /\
  W.cell? ⟨b,off+i*2,none⟩=some lv/\W.cell? ⟨b,off+i*2+1,none⟩=some (.string ds[i].right)/\RdS W lv ds[i].left:=by
 obtain⟨ps,k1,k2,k3⟩:=h;obtain⟨_,_,e,_,_⟩:=RdX.slice k2;obtain⟨rfl,rfl,rfl⟩:=Value.slice.inj e;obtain⟨b,off,h1,h2,h3⟩:=RdX.at k2 (by omega);obtain⟨c0,c1⟩:=pD ps ds i (by omega) hi;exact⟨b,off,_,h1,h2,h3 _ _ c0,by rw[Nat.add_assoc];exact h3 _ _ c1,k3 i (by omega) hi⟩
def RdT (W:World) (cv dv:Value) (t:T):Prop:=RdC W cv t.cols/\RdD W dv t.deps
theorem RdT.kp {W W':World} {cv dv:Value} {t:T} (h:RdT W cv dv t) (hk:Kp W W'):RdT W' cv dv t:=⟨h.1.kp hk,h.2.kp hk⟩
theorem RdT.later {W W':World} {cv dv:Value} {t:T} (h:RdT W cv dv t) (hb:Below W.heap.size W W'):RdT W' cv dv t:=h.kp (.below hb)
def KeepC (B:Nat) (W0:World) (S:Nat) (c:C) (v:Value) (l:List C) (w:World):Prop :=
 w.heap[S]?=some (.cells #[.string c.nm,.int .i64 c.kd,.bool c.mu,.string c.tgt] 95)/\RdC w v l/\Below B W0 w/\B<=S
theorem KeepC.on {B:Nat} {W0:World} {S:Nat} {c:C} {v:Value} {l:List C} {w w':World} (h:KeepC B W0 S c v l w) (hb:Below w.heap.size w w'):KeepC B W0 S c v l w' :=
 ⟨(hb.block _ (aC h.1)).trans h.1,h.2.1.later hb,h.2.2.1.trans (hb.mono (Nat.le_trans h.2.2.2 (Nat.le_of_lt (aC h.1)))),h.2.2.2⟩
theorem KeepC.cell {B:Nat} {W0:World} {S:Nat} {c:C} {v:Value} {l:List C} {w:World} (h:KeepC B W0 S c v l w):S<w.heap.size/\w.cell? ⟨S,0,none⟩=some (.string c.nm)/\w.cell? ⟨S,1,none⟩=some (.int .i64 c.kd)/\w.cell? ⟨S,2,none⟩=some (.bool c.mu)/\w.cell? ⟨S,3,none⟩=some (.string c.tgt) :=
 ⟨aC h.1,aA h.1 0,aA h.1 1,aA h.1 2,aA h.1 3⟩
theorem KeepC.new {B:Nat} {W0:World} {c:C} {v:Value} {l:List C} {w:World} (hl:RdC w v l) (hb:Below B W0 w) (hB:B<=w.heap.size):KeepC B W0 w.heap.size c v l (w.alloc (.cells #[.string c.nm,.int .i64 c.kd,.bool c.mu,.string c.tgt] 95)) :=
 ⟨heap_alloc_new w _,hl.later (aD w _),hb.alloc hB _,hB⟩
abbrev boxT (nm:ByteArray) (cv:Value) (key:ByteArray) (dv:Value):Obj:=.cells #[.string nm,cv,.string key,dv] 77
theorem aE {w w':World} {b:Nat} {o:Obj} (hb:Below w.heap.size w w') (h:w.heap[b]?=some o):w'.heap[b]?=some o:=(hb.block _ (aC h)).trans h
structure KeepT (B:Nat) (W0:World) (S0:Nat) (t:T) (cv dv:Value) (w:World):Prop where
 box:w.heap[S0]?=some (boxT t.nm cv t.key dv)
 tab:RdT w cv dv t
 below:Below B W0 w
 le:B<=S0
section
variable {B:Nat} {W0:World} {S0:Nat} {t:T} {cv dv:Value} {w w':World}
theorem KeepT.size (h:KeepT B W0 S0 t cv dv w):B<=w.heap.size:=Nat.le_trans h.le (Nat.le_of_lt (aC h.box))
theorem KeepT.on (h:KeepT B W0 S0 t cv dv w) (hb:Below w.heap.size w w'):KeepT B W0 S0 t cv dv w' :=
 ⟨aE hb h.box,h.tab.later hb,h.below.trans (hb.mono h.size),h.le⟩
theorem KeepT.cells (h:KeepT B W0 S0 t cv dv w):S0<w.heap.size/\w.cell? ⟨S0,0,none⟩=some (.string t.nm)/\w.cell? ⟨S0,1,none⟩=some cv/\w.cell? ⟨S0,2,none⟩=some (.string t.key)/\w.cell? ⟨S0,3,none⟩=some dv :=
 ⟨aC h.box,aA h.box 0,aA h.box 1,aA h.box 2,aA h.box 3⟩
theorem KeepT.new (h:RdT w cv dv t):KeepT w.heap.size w w.heap.size t cv dv (w.alloc (boxT t.nm cv t.key dv)) :=
 ⟨heap_alloc_new w _,h.later (aD w _),aD w _,Nat.le_refl _⟩
end
structure KeepD (B:Nat) (W0:World) (S0 S:Nat) (t:T) (cv dv:Value) (d:D) (lv:Value) (w:World):Prop where
 tb:KeepT B W0 S0 t cv dv w
 dep:w.heap[S]?=some (.cells #[lv,.string d.right] 124)
 left:RdS w lv d.left
section
variable {B:Nat} {W0:World} {S0 S:Nat} {t:T} {cv dv:Value} {d:D} {lv:Value} {w w':World}
theorem KeepD.on (h:KeepD B W0 S0 S t cv dv d lv w) (hb:Below w.heap.size w w'):KeepD B W0 S0 S t cv dv d lv w' :=
 ⟨h.tb.on hb,aE hb h.dep,h.left.later hb⟩
theorem KeepD.cells (h:KeepD B W0 S0 S t cv dv d lv w):S<w.heap.size/\w.cell? ⟨S,0,none⟩=some lv/\w.cell? ⟨S,1,none⟩=some (.string d.right) :=
 ⟨aC h.dep,aA h.dep 0,aA h.dep 1⟩
theorem KeepD.new (h:KeepT B W0 S0 t cv dv w) (hl:RdS w lv d.left):KeepD B W0 S0 w.heap.size t cv dv d lv (w.alloc (.cells #[lv,.string d.right] 124)) :=
 ⟨h.on (aD w _),heap_alloc_new w _,hl.later (aD w _)⟩
end
def TabsC (W:World) (xs:List Value) (ts:List T):Prop:=xs.length=ts.length*4/\∀ j (h:j<ts.length),∃ cv dv,xs[j*4]?=some (.string ts[j].nm)/\xs[j*4+1]?=some cv/\xs[j*4+2]?=some (.string ts[j].key)/\xs[j*4+3]?=some dv/\RdT W cv dv ts[j]
theorem TabsC.kp {W W':World} {xs:List Value} {ts:List T} (h:TabsC W xs ts) (hk:Kp W W'):TabsC W' xs ts:=⟨h.1,fun j hj=>by
 obtain⟨cv,dv,h1,h2,h3,h4,h5⟩:=h.2 j hj;exact⟨cv,dv,h1,h2,h3,h4,h5.kp hk⟩⟩
theorem TabsC.nil (W:World):TabsC W [] []:=⟨rfl,fun j h=>absurd h (Nat.not_lt_zero j)⟩
theorem TabsC.snoc {W:World} {xs:List Value} {ts:List T} (h:TabsC W xs ts) {t:T} {cv dv:Value} (ht:RdT W cv dv t):TabsC W (xs++[.string t.nm,cv,.string t.key,dv]) (ts++[t]):=by
 refine⟨by simp[h.1];omega,fun j hj=>?_⟩;by_cases e:j<ts.length
 ·obtain⟨cv,dv,h1,h2,h3,h4,h5⟩:=h.2 j e;rw[List.getElem_append_left e];exact⟨cv,dv,by rw[List.getElem?_append_left (by rw[h.1];omega)];exact h1,by rw[List.getElem?_append_left (by rw[h.1];omega)];exact h2,by rw[List.getElem?_append_left (by rw[h.1];omega)];exact h3,by rw[List.getElem?_append_left (by rw[h.1];omega)];exact h4,h5⟩
 have e2:j=ts.length:=(by simp at hj;omega);subst e2;have e3:(ts++[t])[ts.length]=t:=(by simp);rw[e3];refine⟨cv,dv,?_,?_,?_,?_,ht⟩ <;> rw[List.getElem?_append_right (by rw[h.1];omega),h.1] <;> simp
def RdTs (W:World) (v:Value) (ts:List T):Prop:=∃ p cap xs,v=.slice p ts.length cap/\ts.length<=cap/\cap<=maxLen/\(0<ts.length->∃ b off,p=some ⟨b,off,none⟩/\b<W.heap.size/\∀ j u,xs[j]?=some u->W.cell? ⟨b,off+j,none⟩=some u)/\TabsC W xs ts
theorem RdTs.later {W W':World} {v:Value} {ts:List T} (h:RdTs W v ts) (hb:Below W.heap.size W W'):RdTs W' v ts:=by
 obtain⟨p,cap,xs,h1,h2,h3,h4,h5⟩:=h;refine⟨p,cap,xs,h1,h2,h3,fun hn=>?_,h5.kp (.below hb)⟩;obtain⟨b,off,h6,h7,h8⟩:=h4 hn;exact⟨b,off,h6,Nat.lt_of_lt_of_le h7 hb.size,fun j u hj=>(World.cell?_of_block (w:=W) (hb.block b h7)).trans (h8 j u hj)⟩
theorem RdTs.slice {W:World} {v:Value} {ts:List T} (h:RdTs W v ts):∃ p cap,v=.slice p ts.length cap/\ts.length<=cap/\cap<=maxLen:=by
 obtain⟨p,cap,xs,h1,h2,h3,h4,h5⟩:=h;exact⟨p,cap,h1,h2,h3⟩
theorem RdTs.nil (W:World):RdTs W (.slice none 0 0) []:=⟨none,0,[],rfl,Nat.le_refl _,Nat.zero_le _,fun h=>absurd h (Nat.lt_irrefl _),TabsC.nil W⟩
theorem RdTs.tab {W:World} {p:Option Addr} {n cap:Nat} {ts:List T} (h:RdTs W (.slice p n cap) ts) {i:Nat} (hi:i<ts.length):∃ b off cv dv,p=some ⟨b,off,none⟩/\b<W.heap.size /\
  W.cell? ⟨b,off+i*4,none⟩=some (.string ts[i].nm)/\W.cell? ⟨b,off+i*4+1,none⟩=some cv/\W.cell? ⟨b,off+i*4+2,none⟩=some (.string ts[i].key)/\W.cell? ⟨b,off+i*4+3,none⟩=some dv/\RdT W cv dv ts[i]:=by
 obtain⟨p',cap',xs,h1,h2,h3,h4,h5⟩:=h;obtain⟨rfl,rfl,rfl⟩:=Value.slice.inj h1;obtain⟨b,off,h6,h7,h8⟩:=h4 (by omega);obtain⟨cv,dv,c0,c1,c2,c3,c4⟩:=h5.2 i hi;exact⟨b,off,cv,dv,h6,h7,h8 _ _ c0,by rw[Nat.add_assoc];exact h8 _ _ c1,by rw[Nat.add_assoc];exact h8 _ _ c2,by rw[Nat.add_assoc];exact h8 _ _ c3,c4⟩
def zeroT:T:=⟨e0,[],e0,[]⟩
def orT (o:Option T):T:=o.getD zeroT
theorem sT (W:World):RdT W (.slice none 0 0) (.slice none 0 0) zeroT :=
 ⟨⟨rfl,none,0,rfl,Nat.le_refl _,Nat.zero_le _,fun a h=>(by cases h),fun h=>absurd h (Nat.lt_irrefl _)⟩,[],rfl,⟨rfl,none,0,rfl,Nat.le_refl _,Nat.zero_le _,fun a h=>(by cases h),fun h=>absurd h (Nat.lt_irrefl _)⟩,fun j h=>absurd h (Nat.not_lt_zero j)⟩
theorem RdT.c {W:World} {cv dv:Value} {t:T} (h:RdT W cv dv t):RdC W cv t.cols:=h.1
theorem RdT.d {W:World} {cv dv:Value} {t:T} (h:RdT W cv dv t):RdD W dv t.deps:=h.2
theorem zK:(Tryz.prog.info? 95).map (fun i=>(i.zero,i.size,i.bytes))=some (some (.agg #[.string e0,.int .i64 0,.bool false,.string e0]),4,48):=by kernel_rfl
theorem aGA:(Tryz.prog.info? 9).map (fun i=>(i.zero,i.size,i.bytes))=some (some (.string e0),1,16):=by kernel_rfl
theorem mI (l:List C):∀ u∈cellsC l,u.oneCell'=true:=by
 intro u hu;unfold cellsC at hu;rw[List.mem_flatMap] at hu;obtain⟨c,_,hc⟩:=hu;simp only[List.mem_cons,List.not_mem_nil,or_false] at hc;rcases hc with rfl|rfl|rfl|rfl <;> rfl
theorem wX (l:List ByteArray):∀ u∈cellsS l,u.oneCell'=true:=by
 intro u hu;obtain⟨c,_,rfl⟩:=List.mem_map.1 hu;rfl
theorem mJ {l:List C} {v:Value} {W:World} (h:RdC W v l) (hl:l.length<=1000):Calls Tryz.prog 116 #[v] W fun e w'=>∃ v',e=.returned v'/\HRow w' W.heap.size 95 4 v' l.length (cellsC l)/\Below W.heap.size W w':=by
 obtain⟨i0,hi,hz0,hz1,hz2⟩:=info_parts zK;have q31:∀ (w:World) (a:Option Addr) (n c n' c':Nat),(binOp .eql 74 (.slice a n c) (.slice none n' c')).run Tryz.prog w=.ok (.bool a.isNone) w:=(fun w a n c n' c'=>Lib.run_eql_slice_nil w _ _ a n c n' c' Tryz.underlying74);obtain⟨p,cap,rfl,hc,hm⟩:=h.slice;rcases RdX.spot h with rfl|⟨b,off,rfl⟩
 ·have h0:l.length=0:=by
   rcases Nat.eq_zero_or_pos l.length with h0|h0
   ·exact h0
   obtain⟨_,_,e,_⟩:=RdX.at h h0;cases e
  have hl0:l=[]:=List.eq_nil_of_length_eq_zero h0;subst hl0;go_enter Tryz.func116,Tryz.ntmps116;go_wp2_with fail;go_ret;exact⟨_,rfl,HRow.nil,Below.refl _ _⟩
 have hcell:∀ j u,(cellsC l)[j]?=some u->W.cell? ⟨b,off+j,none⟩=some u:=fun j u hj=>by
  have hn:0<l.length:=by
   rcases Nat.eq_zero_or_pos l.length with h0|h0
   ·rw[List.eq_nil_of_length_eq_zero h0] at hj;simp[cellsC] at hj
   exact h0
  obtain⟨b',off',e,_,h3⟩:=RdX.at h hn;cases e;exact h3 j u hj
 have hlen:=gX l;have hone:=mI l;obtain⟨n,hn⟩:∃ n,l.length=n:=⟨_,rfl⟩;rw[hn] at hlen hl ⊢;generalize cellsC l=news at hcell hlen hone ⊢;have A:=qAq hcell;clear hcell h hc hn;unfold maxLen at hm;go_enter Tryz.func116,Tryz.ntmps116;go_wp2_with (at_builtin;refine wpList_append_own _ rfl _ _ 74 rfl W.heap.size 95 i0 _ 4 48 Tryz.underlying74 hi hz0 hz1 hz2 rfl (by decide) _ _ _ rfl (World.ownsRow_made W #[] 0 (Nat.le_refl _) (Nat.zero_le _) (by simp)) ⟨b,off,none⟩ n cap news rfl ?qc1 ?qc2 ?qc3 ?qc4 ?qc5 ?qc6 ?_)
 case qc1=>exact hlen
 case qc2 =>
  intro j u hj;rw[Addr.add_lit];exact Lib.cell?_alloc_some _ (A.out j u hj)
 case qc3=>exact hone
 case qc4=>rw[Nat.zero_add];unfold maxLen;omega
 case qc5=>rw[Nat.zero_add];omega
 case qc6=>simp
 intro v' w1 hown hgrow hnil
 go_wp2
 go_ret;refine⟨v',rfl,HRow.of_own (by simpa using hown),?_⟩;exact ((Below.refl _ W).alloc (Nat.le_refl _) _).grown hgrow (by simp) (by intro k hk;simp[Value.ownBlock] at hk;omega)
theorem mK (l:List ByteArray):(cellsS l).length=l.length*1:=by simp[cellsS]
theorem mL {l:List ByteArray} {v:Value} {W:World} (h:RdS W v l) (hl:l.length<=1000):Calls Tryz.prog 117 #[v] W fun e w'=>∃ v',e=.returned v'/\HRow w' W.heap.size 9 1 v' l.length (cellsS l)/\Below W.heap.size W w':=by
 obtain⟨i0,hi,hz0,hz1,hz2⟩:=info_parts aGA;have q36:∀ (w:World) (a:Option Addr) (n c n' c':Nat),(binOp .eql 85 (.slice a n c) (.slice none n' c')).run Tryz.prog w=.ok (.bool a.isNone) w:=(fun w a n c n' c'=>Lib.run_eql_slice_nil w _ _ a n c n' c' Tryz.underlying85);obtain⟨p,cap,rfl,hc,hm⟩:=h.slice;rcases RdX.spot h with rfl|⟨b,off,rfl⟩
 ·have h0:l.length=0:=by
   rcases Nat.eq_zero_or_pos l.length with h0|h0
   ·exact h0
   obtain⟨_,_,e,_⟩:=RdX.at h h0;cases e
  have hl0:l=[]:=List.eq_nil_of_length_eq_zero h0;subst hl0;go_enter Tryz.func117,Tryz.ntmps117;go_wp2_with fail;go_ret;exact⟨_,rfl,HRow.nil,Below.refl _ _⟩
 have hcell:∀ j u,(cellsS l)[j]?=some u->W.cell? ⟨b,off+j,none⟩=some u:=fun j u hj=>by
  have hn:0<l.length:=by
   rcases Nat.eq_zero_or_pos l.length with h0|h0
   ·rw[List.eq_nil_of_length_eq_zero h0] at hj;simp[cellsS] at hj
   exact h0
  obtain⟨b',off',e,_,h3⟩:=RdX.at h hn;cases e;exact h3 j u hj
 have hlen:=mK l;have hone:=wX l;obtain⟨n,hn⟩:∃ n,l.length=n:=⟨_,rfl⟩;rw[hn] at hlen hl ⊢;generalize cellsS l=news at hcell hlen hone ⊢;have A:=qAq hcell;clear hcell h hc hn;unfold maxLen at hm;go_enter Tryz.func117,Tryz.ntmps117;go_wp2_with (at_builtin;refine wpList_append_own _ rfl _ _ 85 rfl W.heap.size 9 i0 _ 1 16 Tryz.underlying85 hi hz0 hz1 hz2 rfl (by decide) _ _ _ rfl (World.ownsRow_made W #[] 0 (Nat.le_refl _) (Nat.zero_le _) (by simp)) ⟨b,off,none⟩ n cap news rfl ?qc1 ?qc2 ?qc3 ?qc4 ?qc5 ?qc6 ?_)
 case qc1=>exact hlen
 case qc2 =>
  intro j u hj;rw[Addr.add_lit];exact Lib.cell?_alloc_some _ (A.out j u hj)
 case qc3=>exact hone
 case qc4=>rw[Nat.zero_add];unfold maxLen;omega
 case qc5=>rw[Nat.zero_add];omega
 case qc6=>simp
 intro v' w1 hown hgrow hnil
 go_wp2
 go_ret;refine⟨v',rfl,HRow.of_own (by simpa using hown),?_⟩;exact ((Below.refl _ W).alloc (Nat.le_refl _) _).grown hgrow (by simp) (by intro k hk;simp[Value.ownBlock] at hk;omega)
theorem aGW:(Tryz.prog.info? 124).map (fun i=>(i.zero,i.size,i.bytes))=some (some (.agg #[.slice none 0 0,.string e0]),2,40):=by kernel_rfl
theorem app_one {t ty e:TypeId} {z:Value} {size bytes:Nat} (ht:Tryz.prog.underlying t=some (.slice e)) (hinf:(Tryz.prog.info? e).map (fun i=>(i.zero,i.size,i.bytes))=some (some z,size,bytes)) (hzs:z.cells.size=size) (hsz:0<size) (hby:bytes<=80)
  (y:World) (base:Nat) {v:Value} {m:Nat} {xs:List Value} (hr:HRow y base e size v m xs) (hm:m+1<=1000000) (hb:base<=y.heap.size) (cs:Array Value) (hcs:cs.size=size) (h1:∀ u∈cs.toList,u.oneCell'=true) :
  ∃ g cap w',(Builtin.append_ #[t,t] ty #[v,.slice (some ⟨y.heap.size,0,none⟩) 1 1]).run Tryz.prog (y.alloc (.cells cs e))=.ok (.slice (some ⟨g,0,none⟩) (m+1) cap) w' /\
   HRow w' base e size (.slice (some ⟨g,0,none⟩) (m+1) cap) (m+1) (xs++cs.toList)/\y.grownBy w' v.ownBlock/\(v.ownBlock=some g∨y.heap.size<=g):=by
 obtain⟨i0,hi0,hz0,hz1,hz2⟩:=info_parts hinf;have hh:=heap_alloc_new y (.cells cs e)
 have hmul:(m+1)*bytes<=140737488355328:=by
  have:(m+1)*bytes<=1000000*80:=Nat.mul_le_mul hm hby
  omega
 obtain⟨g,cap,w',h1',h2,h3,h4⟩:=aY (P:=Tryz.prog) (y.alloc (.cells cs e)) base t ty e i0 z size bytes ht hi0 hz0 hz1 hz2 hzs hsz (hr.later (aD y _)) ⟨y.heap.size,0,none⟩ 1 1 cs.toList (by simpa using hcs)
  (by exact World.news_of_block hh) h1 (by decide) (by unfold maxLen;omega) hmul (by rw[World.size_alloc];omega)
 exact⟨g,cap,w',h1',h2,⟨h3.os,h3.tape,h3.output,Nat.le_trans (by simp) h3.size,fun q hq hne=>(h3.block q (by simp;omega) hne).trans ((aD y _).block q hq)⟩,h4.imp id (fun h=>by rw[World.size_alloc] at h;omega)⟩
structure OwnT (w:World) (base:Nat) (cv dv:Value) (t:T) (ps:List Value):Prop where
 c:HRow w base 95 4 cv t.cols.length (cellsC t.cols)
 n:ps.length=t.deps.length
 d:HRow w base 124 2 dv t.deps.length (cellsD ps t.deps)
 l:∀ j (h:j<ps.length) (h':j<t.deps.length),HRow w base 9 1 ps[j] t.deps[j].left.length (cellsS t.deps[j].left)
theorem OwnT.rd {w:World} {base:Nat} {cv dv:Value} {t:T} {ps:List Value} (h:OwnT w base cv dv t ps):RdT w cv dv t :=
 ⟨HRow.rdX h.c (by decide) (by decide),ps,h.n,HRow.rdX h.d (by decide) (by decide),fun j a b=>HRow.rdX (h.l j a b) (by decide) (by decide)⟩
theorem OwnT.later {w w':World} {base:Nat} {cv dv:Value} {t:T} {ps:List Value} (h:OwnT w base cv dv t ps) (hb:Below w.heap.size w w'):OwnT w' base cv dv t ps :=
 ⟨h.c.later hb,h.n,h.d.later hb,fun j a b=>(h.l j a b).later hb⟩
def Few (t:T):Prop:=t.cols.length<=1000/\t.deps.length<=1000/\∀ d∈t.deps,d.left.length<=1000
theorem aF (W:World):Below W.heap.size W W.drew:=aG W 1
theorem HRow.beside {w w':World} {base base':Nat} {e e':TypeId} {s s':Nat} {v v':Value} {n n':Nat} {xs xs':List Value} (h:HRow w base e s v n xs) (hr:HRow w base' e' s' v' n' xs') (hne:e≠e') (hg:w.grownBy w' v'.ownBlock):HRow w' base e s v n xs :=
 h.of (fun k hk=>hg.block k (h.lt k hk).2 (fun eq=>by
  obtain⟨_,c1,h1⟩:=h.block k hk;obtain⟨_,c2,h2⟩:=hr.block k eq.symm;rw[h1] at h2;cases h2;exact hne rfl))
structure CopyI (S:Nat) (W:World) (t:T) (cv dv:Value) (w:World):Prop where
 box:w.heap[S]?=some (boxT t.nm cv t.key dv)
 res:w.heap[S+1]?=some (boxT e0 (.slice none 0 0) e0 (.slice none 0 0))
 c:HRow w (S+2) 95 4 cv t.cols.length (cellsC t.cols)
 below:Below S W w
section
variable {S:Nat} {W w w':World} {t:T} {cv dv:Value}
theorem CopyI.sz (h:CopyI S W t cv dv w):S+2<=w.heap.size:=aC h.res
theorem CopyI.on (h:CopyI S W t cv dv w) (hb:Below w.heap.size w w'):CopyI S W t cv dv w' :=
 ⟨aE hb h.box,aE hb h.res,h.c.later hb,h.below.trans (hb.mono (by have:=h.sz;omega))⟩
theorem CopyI.grown (h:CopyI S W t cv dv w) {v:Value} {n:Nat} {xs:List Value} (hr:HRow w (S+2) 124 2 v n xs) (hg:w.grownBy w' v.ownBlock):CopyI S W t cv dv w':=by
 have hb:=eM (n:=S+2) hr hg (Nat.le_refl _) h.sz;exact⟨(hb.block S (by omega)).trans h.box,(hb.block (S+1) (by omega)).trans h.res,h.c.beside hr (by decide) hg,h.below.trans (hb.mono (by omega))⟩
theorem CopyI.cells (h:CopyI S W t cv dv w):S<w.heap.size/\w.cell? ⟨S,0,none⟩=some (.string t.nm)/\w.cell? ⟨S,1,none⟩=some cv/\w.cell? ⟨S,2,none⟩=some (.string t.key)/\w.cell? ⟨S,3,none⟩=some dv :=
 ⟨aC h.box,aA h.box 0,aA h.box 1,aA h.box 2,aA h.box 3⟩
end
structure DepsI (w:World) (base:Nat) (v:Value) (ds:List D) (ps:List Value):Prop where
 n:ps.length=ds.length
 d:HRow w base 124 2 v ds.length (cellsD ps ds)
 l:∀ j (h:j<ps.length) (h':j<ds.length),HRow w base 9 1 ps[j] ds[j].left.length (cellsS ds[j].left)
theorem DepsI.later {w w':World} {base:Nat} {v:Value} {ds:List D} {ps:List Value} (h:DepsI w base v ds ps) (hb:Below w.heap.size w w'):DepsI w' base v ds ps:=⟨h.n,h.d.later hb,fun j a b=>(h.l j a b).later hb⟩
theorem DepsI.snoc {y w':World} {base:Nat} {v v' lv:Value} {ds:List D} {ps:List Value} {d:D} (h:DepsI y base v ds ps) (hl:HRow y base 9 1 lv d.left.length (cellsS d.left))
  (hr:HRow w' base 124 2 v' (ds.length+1) (cellsD ps ds++[lv,.string d.right])) (hg:y.grownBy w' v.ownBlock):DepsI w' base v' (ds++[d]) (ps++[lv]):=by
 refine⟨by simp[h.n],?_,fun j a b=>?_⟩
 ·rw[gU _ _ _ _ h.n,List.length_append];exact hr
 by_cases e:j<ps.length
 ·have e':j<ds.length:=(by rw[<- h.n];exact e);simp only[List.getElem_append_left e,List.getElem_append_left e'];exact (h.l j e e').beside h.d (by decide) hg
 have e2:j=ps.length:=(by simp at a;omega);have e3:j=ds.length:=(by rw[<- h.n];exact e2);have k1:(ps++[lv])[j]=lv:=(by subst e2;simp);have k2:(ds++[d])[j]=d:=(by subst e3;simp);rw[k1,k2];exact hl.beside h.d (by decide) hg
theorem DepsI.nil (w:World) (base:Nat):DepsI w base (.slice none 0 0) [] []:=⟨rfl,HRow.nil,fun j h=>absurd h (Nat.not_lt_zero j)⟩
theorem kY {S:Nat} {W w1 y:World} {t:T} {cv dv v lv:Value} {ds:List D} {ps:List Value} {d:D} (hI:CopyI S W t cv dv w1) (hD:DepsI w1 (S+2) v ds ps) (hb:Below w1.heap.size w1 y)
  (hl:HRow y w1.heap.size 9 1 lv d.left.length (cellsS d.left)) (hn:ds.length<=1000):∃ g cap w3,(Builtin.append_ #[75,75] 75 #[v,.slice (some ⟨y.heap.size,0,none⟩) 1 1]).run Tryz.prog (y.alloc (.cells #[lv,.string d.right] 124))=.ok (.slice (some ⟨g,0,none⟩) (ds.length+1) cap) w3 /\
   CopyI S W t cv dv w3/\DepsI w3 (S+2) (.slice (some ⟨g,0,none⟩) (ds.length+1) cap) (ds++[d]) (ps++[lv]):=by
 have hI2:=hI.on hb;have hD2:=hD.later hb;obtain⟨p,c,hlv,_,_⟩:=hl.isslice
 obtain⟨g,cap,w3,h1,h2,h3,h4⟩:=app_one (ty:=75) Tryz.underlying75 aGW (by kernel_rfl) (by decide) (by decide) y (S+2) hD2.d (by omega) hI2.sz #[lv,.string d.right] rfl (by
  intro u hu;simp only[List.mem_cons,List.not_mem_nil,or_false] at hu;rcases hu with rfl|rfl
  ·rw[hlv];rfl
  rfl)
 exact⟨g,cap,w3,h1,hI2.grown hD2.d h3,hD2.snoc (hl.mono hI.sz) h2 h3⟩
theorem OwnT.of {w w':World} {base:Nat} {cv dv:Value} {t:T} {ps:List Value} (h:OwnT w base cv dv t ps) (hk:∀ q:Nat,base<=q->w'.heap[q]?=w.heap[q]?):OwnT w' base cv dv t ps :=
 ⟨h.c.of (fun k e=>hk k (h.c.lt k e).1),h.n,h.d.of (fun k e=>hk k (h.d.lt k e).1),fun j a b=>(h.l j a b).of (fun k e=>hk k ((h.l j a b).lt k e).1)⟩
theorem cG (x:World) (b q:Nat) (h:q≠b) (a c d e:Value):((((x.setCell ⟨b,0,none⟩ a).setCell ⟨b,1,none⟩ c).setCell ⟨b,2,none⟩ d).setCell ⟨b,3,none⟩ e).heap[q]?=x.heap[q]?:=by
 have hs:∀ (y:World) (i:Nat) (u:Value),(y.setCell ⟨b,i,none⟩ u).heap[q]?=y.heap[q]?:=(fun y i u=>heap_setCell_other y ⟨b,i,none⟩ q u h);rw[hs,hs,hs,hs]
theorem mM {t:T} {cv dv:Value} {W:World} (h:RdT W cv dv t) (hf:Few t):Calls Tryz.prog 97 #[.agg #[.string t.nm,cv,.string t.key,dv]] W fun e w'=>∃ p1 c1 p2 c2 ps,e=.returned (.agg #[.string t.nm,.slice p1 t.cols.length c1,.string t.key,.slice p2 t.deps.length c2]) /\
  OwnT w' (W.heap.size+2) (.slice p1 t.cols.length c1) (.slice p2 t.deps.length c2) t ps/\Below W.heap.size W w':=by
 obtain⟨pc,cc,hcv,hc1,hc2⟩:=h.1.slice;obtain⟨p,cap,hdv,hc3,hc4⟩:=h.2.slice;obtain⟨n,hn⟩:∃ n,t.cols.length=n:=⟨_,rfl⟩;obtain⟨nd,hnd⟩:∃ n,t.deps.length=n:=⟨_,rfl⟩;obtain⟨S,hS⟩:∃ S,W.heap.size=S:=⟨_,rfl⟩;have hb1:=aD W (boxT t.nm cv t.key dv);have hb2:=hb1.alloc hb1.size (boxT e0 (.slice none 0 0) e0 (.slice none 0 0));have k0:=dH (u:=boxT e0 (.slice none 0 0) e0 (.slice none 0 0)) (heap_alloc_new W (boxT t.nm cv t.key dv));have k1:=heap_alloc_new (W.alloc (boxT t.nm cv t.key dv)) (boxT e0 (.slice none 0 0) e0 (.slice none 0 0));rw[hS] at k0;rw[World.size_alloc,hS] at k1;have hcl:=mJ (h.1.later hb2) hf.1;have hsz:((W.alloc (boxT t.nm cv t.key dv)).alloc (boxT e0 (.slice none 0 0) e0 (.slice none 0 0))).heap.size=S+2:=(by rw[World.size_alloc,World.size_alloc,hS]);obtain⟨w0,hw0⟩:∃ w0,(W.alloc (boxT t.nm cv t.key dv)).alloc (boxT e0 (.slice none 0 0) e0 (.slice none 0 0))=w0:=⟨_,rfl⟩;rw[hw0] at k0 k1 hb2 hcl hsz;rw[hsz,hn] at hcl;rw[hS] at hb2;rw[hnd] at hdv hc3;rw[hn] at hcv;unfold maxLen at hc4;have HW:=qAq hw0;have HS:=qAq hS;have HB:=qAq (qBq k0 (qBq k1 (qBq hb2 hsz)));have HN:=qAq (qBq hn hnd);have HR:=qAq (qBq h.2 hf.2);have z1:=aA k0 1;have zf:=frozen_of_row w0 S 1 _ _ k0;have zl:=aC k0;subst hcv hdv;clear h hf hw0 hS k0 k1 hb1 hb2 hsz;go_enter Tryz.func97,Tryz.ntmps97;go_upto_region 1 with fail;rw[HW.out,HS.out];go_upto_region 2 with (go_at_call 116;(with_reducible refine hcl.mono ?_);rintro e y1 ⟨v',rfl,hr,hb⟩;obtain⟨pv,cv',rfl,_,_⟩:=HRow.isslice hr;have hbx:=(hb.block S (by omega)).trans HB.out.1;have z1:=aA hbx 1;have zf:=frozen_of_row y1 S 1 _ _ hbx;have zl:=aC hbx;have H1:=qAq (qBq hr (qBq hb hbx));clear hr hb hbx)
 have hI:CopyI S W t (.slice pv n cv') (.slice p nd cap) (y1.setCell ⟨S,1,none⟩ (.slice pv n cv')):=by
  have hne:∀ (q:Nat),q≠S->(y1.setCell ⟨S,1,none⟩ (.slice pv n cv')).heap[q]?=y1.heap[q]?:=(fun q h=>heap_setCell_other y1 ⟨S,1,none⟩ q _ h);refine⟨heap_setCell_same _ S 1 _ _ _ H1.out.2.2,(hne _ (by omega)).trans ((H1.out.2.1.block (S+1) (by omega)).trans HB.out.2.1),?_,?_⟩
  ·rw[HN.out.1];exact H1.out.1.of (fun k hk=>hne k (by have:=(H1.out.1.lt k hk).1;omega))
  exact (HB.out.2.2.1.trans (H1.out.2.1.mono (by omega))).setCell (p:=⟨S,1,none⟩) (Nat.le_refl _) _
 obtain⟨y2,hy2⟩:∃ y2,y1.setCell ⟨S,1,none⟩ (.slice pv n cv')=y2:=⟨_,rfl⟩;rw[hy2] at hI ⊢;clear hy2 H1 hcl;have c3:=hI.cells.2.2.2.2;have HI:=qAq hI;clear hI;have ent42:∀ a w,(callFunc 117 a).run Tryz.prog w=.ok (.enter 117 a) w:=(by intro a w;rfl);go_wp2_with fail;clear c3;go_loopg [3,13] (nd+1) (fun gh v jv w=>∃ (j:Nat) (ps:List Value),jv=.int .i64 (j:Int)/\j<=nd/\nd+1<=j+gh/\CopyI S W t (.slice pv n cv') (.slice p nd cap) w/\DepsI w (S+2) v (t.deps.take j) ps)
 case atStart=>exact⟨0,[],rfl,Nat.zero_le _,by omega,HI.out,DepsI.nil _ _⟩
 obtain⟨j,ps,rfl,hj,hg,hK,hD⟩:=hrel;have hlen:(t.deps.take j).length=j:=(by rw[List.length_take,HN.out.2];omega);have hj1:=HR.out.2.1;rw[HN.out.2] at hj1;obtain⟨pd,cd,hv,_,_⟩:=HRow.isslice hD.d;rw[hlen] at hv;subst hv;by_cases hlt:j<nd
 ·have hjl:j<t.deps.length:=(by rw[HN.out.2];exact hlt);have hsrc:RdD wr (.slice p nd cap) t.deps:=HR.out.1.later (hK.below.mono (Nat.le_of_eq HS.out));obtain⟨b,off,lv,rfl,hb,c0,c1,hlv⟩:=RdD.dep hsrc hjl;obtain⟨d,hdj⟩:∃ d,t.deps[j]=d:=⟨_,rfl⟩;have htk:t.deps.take (j+1)=t.deps.take j++[d]:=(by rw[List.take_succ_eq_append_getElem hjl,hdj]);have hdl:d.left.length<=1000:=HR.out.2.2 d (by rw[<- hdj];exact List.getElem_mem _);rw[hdj] at c1 hlv;obtain⟨pl,cl,rfl,_,_⟩:=hlv.slice;have hnew:=heap_alloc_new wr (.cells #[.slice pl d.left.length cl,.string d.right] 124);have hbn:=aD wr (.cells #[.slice pl d.left.length cl,.string d.right] 124);have hcs:=mL ((hlv.later hbn).later (aF _)) hdl;have K1:=qAq (qBq ((hK.on hbn).on (aF _)) (qBq ((hD.later hbn).later (aF _)) (qBq (aE (aF _) hnew) htk)));have HL:=qAq hlen;clear hdj hsrc hlv hdl hK hD hnew hbn hlen htk;go_upto_region 6 with fail;obtain⟨nl,hnl⟩:∃ m,d.left.length=m:=⟨_,rfl⟩;obtain⟨w1,hw1⟩:∃ w1,wr.alloc (.cells #[.slice pl d.left.length cl,.string d.right] 124)=w1:=⟨_,rfl⟩;obtain⟨S1,hS1⟩:∃ S1,wr.heap.size=S1:=⟨_,rfl⟩;rw[hw1,hS1] at K1;rw[hw1] at hcs;rw[hw1,hS1];clear hw1 hS1 c0 c1 hb;rw[hnl] at hcs K1 ⊢;have HNL:=qAq hnl;clear hnl;have x0:=aA K1.out.2.2.1 0;have x1:=aA K1.out.2.2.1 1;have xl:=aC K1.out.2.2.1
  go_region_law (first
   | (refine cA ent42 [.slice pl nl cl] (by simp[Act.eval]) ?_;(with_reducible refine Calls.mono hcs ?_);rintro e y2 ⟨lv',rfl,hr2,hb2⟩;obtain⟨pv2,cv2,rfl,_,_⟩:=HRow.isslice hr2;have q2:=aE hb2 K1.out.2.2.1;have q0:=aA q2 1;have ql:=aC q2;obtain⟨g,cap',w3,hrun,I3,D3⟩:=kY (d:=d) K1.out.1 K1.out.2.1 hb2 (by rw[HNL.out];exact hr2) (by rw[HL.out];omega);rw[HL.out] at hrun D3;have H3:=qAq (qBq I3 D3);clear I3 D3 hr2 hb2 q2 hcs;refine⟨_,rfl,?_⟩)
   | refine bJ rfl (.tmp 17) (.tmp 24) 75 rfl rfl rfl hrun ?_)
  all_goals
   go_wp2_with fail;go_roundg (nd-j)
   case measure=>omega
   case rel=>exact⟨j+1,_,by go_num,by omega,by omega,H3.out.1,by rw[K1.out.2.2.2];exact H3.out.2⟩
 obtain rfl:j=nd:=(by omega);have htk:t.deps.take j=t.deps:=List.take_of_length_le (by rw[HN.out.2];exact Nat.le_refl _);rw[htk] at hD;have hbox:=hK.box;have hres:=hK.res;have z0:=aA hbox 0;have z1:=aA hbox 1;have z2:=aA hbox 2;have z3:=aA hbox 3;have zf:=(fun i=>frozen_of_row wr S i _ _ hbox);have zl:=aC hbox;have r0:=aA hres 0;have r1:=aA hres 1;have r2:=aA hres 2;have r3:=aA hres 3;have rf:=(fun i=>frozen_of_row wr (S+1) i _ _ hres);have rl:=aC hres;have HK:=qAq (qBq hK hD);clear hK hD hbox hres htk hlen;go_wp2_with fail;obtain⟨wa,hwa⟩:∃ wa,wr.setCell ⟨S,3,none⟩ (.slice pd j cd)=wa:=⟨_,rfl⟩;have ha:∀ q:Nat,q≠S->wa.heap[q]?=wr.heap[q]?:=(fun q h=>by rw[<- hwa];exact heap_setCell_other wr ⟨S,3,none⟩ q _ h);have hab:Below S W wa:=(by rw[<- hwa];exact HK.out.1.below.setCell (p:=⟨S,3,none⟩) (Nat.le_refl _) _);have hra:=(ha (S+1) (by omega)).trans HK.out.1.res;rw[hwa];clear hwa;have hS4:=set4 hra (.string t.nm) (.slice pv n cv') (.string t.key) (.slice pd j cd);have hBx:=bD hab (show S<=S+1 by omega) (.string t.nm) (.slice pv n cv') (.string t.key) (.slice pd j cd);have hO:=cG wa (S+1);have ho:∀ q:Nat,S+2<=q->((((wa.setCell ⟨S+1,0,none⟩ (.string t.nm)).setCell ⟨S+1,1,none⟩ (.slice pv n cv')).setCell ⟨S+1,2,none⟩ (.string t.key)).setCell ⟨S+1,3,none⟩ (.slice pd j cd)).heap[q]?=wr.heap[q]?:=(fun q h=>(hO q (by omega) _ _ _ _).trans (ha q (by omega)));generalize (((wa.setCell _ _).setCell _ _).setCell _ _).setCell _ _=wz at hS4 hBx ho ⊢;have y0:=aA hS4 0;have y1:=aA hS4 1;have y2:=aA hS4 2;have y3:=aA hS4 3;refine bodyPost_ret (v:=.agg #[.string t.nm,(.slice pv n cv'),.string t.key,(.slice pd j cd)]) (by simp[results,Tryz.results97,go_sem,y0,y1,y2,y3]) rfl ?_;rw[HN.out.1,HN.out.2,HS.out];have hOwn:OwnT wr (S+2) (.slice pv n cv') (.slice pd j cd) t ps:=⟨HK.out.1.c,HK.out.2.n,HK.out.2.d,HK.out.2.l⟩;exact⟨_,_,_,_,ps,rfl,hOwn.of ho,hBx⟩
def doneC (key:ByteArray) (l:List C) (j:Nat):List C:=(l.take j).map (formC key)++l.drop j
theorem cB (key:ByteArray) (l:List C) (j:Nat):(doneC key l j).length=l.length:=by
 unfold doneC;simp;omega
theorem dV (key:ByteArray) (l:List C) (j:Nat) (hj:j<=l.length) (i:Nat):(doneC key l j)[i]?=(l[i]?).map (fun c=>if i<j then formC key c else c):=by
 unfold doneC;by_cases h:i<j
 ·rw[List.getElem?_append_left (by simp;omega),List.getElem?_map,List.getElem?_take,if_pos h];simp[h]
 rw[List.getElem?_append_right (by simp;omega),List.getElem?_drop];simp only[List.length_map,List.length_take,Nat.min_eq_left hj,h,if_false];rw[show j+(i-j)=i by omega]
 simp
theorem mN (key:ByteArray) (l:List C):doneC key l 0=l:=by simp[doneC]
theorem pE (key:ByteArray) (l:List C):doneC key l l.length=l.map (formC key):=by simp[doneC]
theorem aAZ {key:ByteArray} {c:C} (h:eqS c.nm key=false):formC key c=c:=by unfold formC;rw[h];simp
theorem aBa {key:ByteArray} {c:C} (h:eqS c.nm key=true):formC key c={ c with mu:=true }:=by unfold formC;rw[h];simp
theorem mO {key:ByteArray} {l:List C} {j:Nat} (hj:j<l.length) (h:eqS l[j].nm key=false):doneC key l (j+1)=doneC key l j:=by
 apply List.ext_getElem?;intro i;rw[dV _ _ _ (by omega),dV _ _ _ (by omega)];by_cases e:i=j
 ·subst e;rw[List.getElem?_eq_getElem hj];simp[aAZ h]
 congr 1
 funext c
 by_cases h1:i<j
 ·rw[if_pos h1,if_pos (by omega)]
 rw[if_neg h1,if_neg (by omega)]
theorem mP {key:ByteArray} {l:List C} {j:Nat} (hj:j<l.length) (h:eqS l[j].nm key=true):doneC key l (j+1)=(doneC key l j).set j { l[j] with mu:=true }:=by
 apply List.ext_getElem?;intro i;rw[dV _ _ _ (by omega),List.getElem?_set,dV _ _ _ (by omega)];by_cases e:j=i
 ·subst e;rw[if_pos rfl,if_pos (by rw[cB];exact hj),List.getElem?_eq_getElem hj];simp[aBa h]
 rw[if_neg e]
 congr 1
 funext c
 by_cases h1:i<j
 ·rw[if_pos h1,if_pos (by omega)]
 rw[if_neg h1,if_neg (by omega)]
theorem kZ (l:List C) (j:Nat) (hj:j<l.length):(cellsC l).set (j*4+2) (.bool true)=cellsC (l.set j { l[j] with mu:=true }):=by
 induction l generalizing j with
 | nil=>simp at hj
 | cons c r ih =>
  cases j with
  | zero=>simp[bO]
  | succ j =>
   have:=ih j (by simpa using hj)
   rw[bO,show (j+1)*4+2=j*4+2+1+1+1+1 by omega];simp only[qIq,List.getElem_cons_succ,bO,this]
structure MustI (S:Nat) (W:World) (base:Nat) (t:T) (cv dv:Value) (ps:List Value) (j:Nat) (w:World):Prop where
 box:w.heap[S]?=some (boxT t.nm cv t.key dv)
 res:w.heap[S+1]?=some (boxT e0 (.slice none 0 0) e0 (.slice none 0 0))
 own:OwnT w base cv dv { t with cols:=doneC t.key t.cols j } ps
 chg:Chg (fun b=>cv.ownBlock=some b) W w
 lt:∀ b,cv.ownBlock=some b->b<S
section
variable {S base:Nat} {W w:World} {t:T} {cv dv:Value} {ps:List Value} {j:Nat}
theorem MustI.cells (h:MustI S W base t cv dv ps j w):S<w.heap.size/\w.cell? ⟨S,1,none⟩=some cv/\w.cell? ⟨S,2,none⟩=some (.string t.key) :=
 ⟨aC h.box,aA h.box 1,aA h.box 2⟩
theorem MustI.drew (h:MustI S W base t cv dv ps j w):MustI S W base t cv dv ps j w.drew :=
 ⟨h.box,h.res,h.own.later (aF w),h.chg.drew,h.lt⟩
theorem MustI.skip (h:MustI S W base t cv dv ps j w) (hj:j<t.cols.length) (he:eqS t.cols[j].nm t.key=false):MustI S W base t cv dv ps (j+1) w :=
 ⟨h.box,h.res,by rw[mO hj he];exact h.own,h.chg,h.lt⟩
theorem OwnT.cset {w:World} {g cap n:Nat} (h:OwnT w base (.slice (some ⟨g,0,none⟩) n cap) dv t ps) (hn:t.cols.length=n) (hj:j<t.cols.length):OwnT (w.setCell ⟨g,j*4+2,none⟩ (.bool true)) base (.slice (some ⟨g,0,none⟩) n cap) dv { t with cols:=t.cols.set j { t.cols[j] with mu:=true } } ps:=by
 have hc:=h.c;rw[hn] at hc;obtain⟨h1,h2⟩:=HRow.stored hc (j*4+2) (.bool true);rw[kZ _ _ hj] at h1;refine⟨?_,h.n,h.d.beside hc (by decide) h2,fun a b c=>(h.l a b c).beside hc (by decide) h2⟩;show HRow _ base 95 4 _ (t.cols.set j _).length (cellsC (t.cols.set j _));rw[List.length_set,hn];exact h1
theorem MustI.take {g cap n:Nat} (h:MustI S W base t (.slice (some ⟨g,0,none⟩) n cap) dv ps j w) (hn:t.cols.length=n) (hj:j<t.cols.length) (he:eqS t.cols[j].nm t.key=true):MustI S W base t (.slice (some ⟨g,0,none⟩) n cap) dv ps (j+1) (w.setCell ⟨g,j*4+2,none⟩ (.bool true)):=by
 have hlt:=h.lt g rfl;have hj2:j<(doneC t.key t.cols j).length:=by rw[cB];exact hj
 have hgj:(doneC t.key t.cols j)[j]=t.cols[j]:=by
  have:=dV t.key t.cols j (by omega) j
  rw[List.getElem?_eq_getElem hj2,List.getElem?_eq_getElem hj] at this;simpa using this
 have ho:=h.own.cset (j:=j) (by show (doneC t.key t.cols j).length=n;rw[cB];exact hn) hj2;have ho:OwnT (w.setCell ⟨g,j*4+2,none⟩ (.bool true)) base (.slice (some ⟨g,0,none⟩) n cap) dv { t with cols:=(doneC t.key t.cols j).set j { (doneC t.key t.cols j)[j] with mu:=true } } ps:=ho;rw[hgj,<- mP hj he] at ho;exact⟨(heap_setCell_other w ⟨g,_,none⟩ S _ (by show S≠g;omega)).trans h.box,(heap_setCell_other w ⟨g,_,none⟩ (S+1) _ (by show S+1≠g;omega)).trans h.res,ho,h.chg.setCell (p:=⟨g,j*4+2,none⟩) (fun _=>rfl) _,h.lt⟩
theorem MustI.col {g cap n:Nat} (h:MustI S W base t (.slice (some ⟨g,0,none⟩) n cap) dv ps j w) (hn:t.cols.length=n) (hj:j<t.cols.length):g<w.heap.size/\w.cell? ⟨g,j*4,none⟩=some (.string t.cols[j].nm)/\(∃ b,w.cell? ⟨g,j*4+2,none⟩=some (.bool b))/\w.frozen? ⟨g,j*4+2,none⟩=false:=by
 have hc:=h.own.c;have hl:(doneC t.key t.cols j).length=n:=(by rw[cB];exact hn);have hj2:j<(doneC t.key t.cols j).length:=by rw[cB];exact hj
 have hgj:(doneC t.key t.cols j)[j]=t.cols[j]:=by
  have:=dV t.key t.cols j (by omega) j
  rw[List.getElem?_eq_getElem hj2,List.getElem?_eq_getElem hj] at this;simpa using this
 have hc:HRow w base 95 4 (.slice (some ⟨g,0,none⟩) n cap) (doneC t.key t.cols j).length (cellsC (doneC t.key t.cols j)):=hc;obtain⟨c0,_,c2,_⟩:=jV (doneC t.key t.cols j) j hj2;rw[hl] at hc;rw[hgj] at c0;exact⟨(hc.lt g rfl).2,hc.cell c0,⟨_,hc.cell c2⟩,hc.frozenAt _⟩
end
theorem RdC.lit {w:World} {b:Nat} {l:List C} (h:w.heap[b]?=some (.cells (cellsC l).toArray 95)) (hl:l.length<=maxLen):RdC w (.slice (some ⟨b,0,none⟩) l.length l.length) l :=
 ⟨gX l,_,_,rfl,Nat.le_refl _,hl,fun a e=>by cases e;rfl,fun _=>⟨b,0,_,_,_,rfl,h,by decide,by decide,fun j u hj=>by rw[Nat.zero_add,List.getElem?_toArray];exact hj⟩⟩
theorem RdD.none (w:World):RdD w (.slice none 0 0) []:=(sT w).2
theorem RdC.colAt {W:World} {b off n cap:Nat} {l:List C} (h:RdC W (.slice (some ⟨b,off,none⟩) n cap) l) {i:Nat} (hi:i<l.length):b<W.heap.size/\W.cell? ⟨b,off+i*4,none⟩=some (.string l[i].nm)/\W.cell? ⟨b,off+i*4+1,none⟩=some (.int .i64 l[i].kd)/\W.cell? ⟨b,off+i*4+2,none⟩=some (.bool l[i].mu)/\W.cell? ⟨b,off+i*4+3,none⟩=some (.string l[i].tgt):=by
 obtain⟨_,_,e,h1⟩:=RdC.col h hi;cases e;exact h1
theorem RdS.wordAt {W:World} {b off n cap:Nat} {l:List ByteArray} (h:RdS W (.slice (some ⟨b,off,none⟩) n cap) l) {i:Nat} (hi:i<l.length):b<W.heap.size/\W.cell? ⟨b,off+i,none⟩=some (.string l[i]):=by
 obtain⟨_,_,e,h1⟩:=RdS.word h hi;cases e;exact h1
theorem wY {l:List C} {x:ByteArray} (j:Nat) (h:j<l.length) (hp:isC x l[j]=true) (hn:∀ i (hi:i<j),isC x (l[i]'(by omega))=false):ixC l x=(j:Int):=by
 obtain⟨_,_,h3⟩:=eN (p:=isC x) l j h hp hn;unfold ixC;rw[h3]
theorem mQ {l:List C} {x:ByteArray} (hn:∀ i (hi:i<l.length),isC x l[i]=false):ixC l x=-1:=by
 obtain⟨_,_,h3⟩:=iZ (p:=isC x) l hn;unfold ixC;rw[h3]
theorem bU {t:T} {cv dv:Value} {x:ByteArray} {W:World} (h:RdT W cv dv t):Calls Tryz.prog 78 #[.agg #[.string t.nm,cv,.string t.key,dv],.string x] W fun e w'=>e=.returned (.int .i64 (ixC t.cols x))/\Below W.heap.size W w':=by
 have HK:=qAq (KeepT.new h);obtain⟨pc,cc,hcv,hc,hm⟩:=h.c.slice;obtain⟨p,cap,hdv,_,_⟩:=h.d.slice;obtain⟨n,hn⟩:∃ n,t.cols.length=n:=⟨_,rfl⟩;obtain⟨nd,hnd⟩:∃ n,t.deps.length=n:=⟨_,rfl⟩;obtain⟨B,hB⟩:∃ B,W.heap.size=B:=⟨_,rfl⟩;unfold maxLen at hm;rw[hnd] at hdv;rw[hn] at hcv hc;subst hcv hdv;have HN:=qAq hn;rw[hB] at HK;have hB2:=qAq hB;clear h hn hnd hB;go_enter Tryz.func78,Tryz.ntmps78;go_upto_region 1 with fail;obtain⟨w0,hw0⟩:∃ w0,W.alloc (boxT t.nm (.slice pc n cc) t.key (.slice p nd cap))=w0:=⟨_,rfl⟩;rw[hB2.out,hw0];rw[hw0] at HK;clear hw0;obtain⟨hlt0,_,z1,_,_⟩:=HK.out.cells;go_wp2_with fail;go_loopg [5] (n+1) (fun gh jv w=>∃ (j:Nat),jv=.int .i64 (j:Int)/\j<=n/\n+1<=j+gh/\(∀ i (h:i<t.cols.length),i<j->isC x t.cols[i]=false)/\w=w0)
 case atStart=>exact⟨0,rfl,Nat.zero_le _,by omega,fun i _ hi=>by omega,rfl⟩
 obtain⟨j,rfl,hj,hg,hno,rfl⟩:=hrel;have HI:=qAq hno;clear hno;by_cases hlt:j<n
 ·have hjl:j<t.cols.length:=(by rw[HN.out];exact hlt);obtain⟨b,off,rfl,hb,c0,_⟩:=RdC.col HK.out.tab.c hjl;obtain⟨c,hcj⟩:∃ c,t.cols[j]=c:=⟨_,rfl⟩;rw[hcj] at c0;have HC:=qAq hcj;clear hcj;cases hx:isC x c
  ·have HX:=qAq hx;have hx2:(c.nm.toList==x.toList)=false:=(by rw[aR];exact hx);clear hx;go_wp2_with fail;go_roundg (n-j)
   case measure=>omega
   refine⟨j+1,by go_num,by omega,by omega,fun i hi hij=>?_,rfl⟩;by_cases e:i=j
   ·subst e;rw[HC.out];exact HX.out
   exact HI.out i hi (by omega)
  have HX:=qAq hx;have hx2:(c.nm.toList==x.toList)=true:=(by rw[aR];exact hx);clear hx;go_wp2_with fail;go_ret;exact⟨aQ (wY j (by rw[HN.out];exact hlt) (by rw[HC.out];exact HX.out) (fun i hi=>HI.out i _ hi)).symm,hB2.out▸HK.out.below⟩
 go_wp2_with fail;go_ret;exact⟨aQ (mQ (fun i hi=>HI.out i hi (by have:=HN.out;omega))).symm,hB2.out▸HK.out.below⟩
structure KeepR (B:Nat) (W0:World) (S0:Nat) (t:T) (cv dv v:Value) (ts:List T) (w:World):Prop where
 tb:KeepT B W0 S0 t cv dv w
 ts:RdTs w v ts
theorem KeepR.on {B:Nat} {W0:World} {S0:Nat} {t:T} {cv dv v:Value} {ts:List T} {w w':World} (h:KeepR B W0 S0 t cv dv v ts w) (hb:Below w.heap.size w w'):KeepR B W0 S0 t cv dv v ts w':=⟨h.tb.on hb,h.ts.later hb⟩
section
variable {S:Nat} {W w w':World} {ts ts':List T}
end
section
variable {S:Nat} {W w w':World} {ts us ts':List T} {v:Value} {xs:List Value}
end
structure FormI (S:Nat) (W:World) (t:T) (cv dv:Value) (j:Nat) (w:World):Prop where
 box:w.heap[S]?=some (boxT t.nm cv t.key dv)
 res:w.heap[S+1]?=some (boxT e0 (.slice none 0 0) e0 (.slice none 0 0))
 c:HRow w (S+2) 95 4 cv t.cols.length (cellsC (doneC t.key t.cols j))
 below:Below S W w
section
variable {S:Nat} {W w w':World} {t:T} {cv dv:Value} {j:Nat}
theorem FormI.sz (h:FormI S W t cv dv j w):S+2<=w.heap.size:=aC h.res
theorem FormI.on (h:FormI S W t cv dv j w) (hb:Below w.heap.size w w'):FormI S W t cv dv j w' :=
 ⟨aE hb h.box,aE hb h.res,h.c.later hb,h.below.trans (hb.mono (by have:=h.sz;omega))⟩
theorem FormI.cells (h:FormI S W t cv dv j w):S<w.heap.size/\w.cell? ⟨S,0,none⟩=some (.string t.nm)/\w.cell? ⟨S,1,none⟩=some cv/\w.cell? ⟨S,2,none⟩=some (.string t.key)/\w.cell? ⟨S,3,none⟩=some dv :=
 ⟨aC h.box,aA h.box 0,aA h.box 1,aA h.box 2,aA h.box 3⟩
theorem FormI.skip (h:FormI S W t cv dv j w) (hj:j<t.cols.length) (he:eqS t.cols[j].nm t.key=false):FormI S W t cv dv (j+1) w :=
 ⟨h.box,h.res,by rw[mO hj he];exact h.c,h.below⟩
theorem pF (key:ByteArray) (l:List C) (j:Nat) (hj:j<l.length) (h:j<(doneC key l j).length):(doneC key l j)[j]=l[j]:=by
 have:=dV key l j (by omega) j
 rw[List.getElem?_eq_getElem h,List.getElem?_eq_getElem hj] at this;simpa using this
theorem FormI.take {g cap n:Nat} (h:FormI S W t (.slice (some ⟨g,0,none⟩) n cap) dv j w) (hn:t.cols.length=n) (hj:j<t.cols.length) (he:eqS t.cols[j].nm t.key=true):FormI S W t (.slice (some ⟨g,0,none⟩) n cap) dv (j+1) (w.setCell ⟨g,j*4+2,none⟩ (.bool true)):=by
 have hc:=h.c;rw[hn] at hc;have hlt:=(hc.lt g rfl).1;have hj2:j<(doneC t.key t.cols j).length:=(by rw[cB];exact hj);obtain⟨h1,h2⟩:=HRow.stored hc (j*4+2) (.bool true);rw[kZ _ _ hj2,pF _ _ _ hj hj2,<- mP hj he] at h1;exact⟨(heap_setCell_other w ⟨g,_,none⟩ S _ (by show S≠g;omega)).trans h.box,(heap_setCell_other w ⟨g,_,none⟩ (S+1) _ (by show S+1≠g;omega)).trans h.res,by rw[hn];exact h1,h.below.setCell (p:=⟨g,j*4+2,none⟩) (by show S<=g;omega) _⟩
theorem FormI.col {g cap n:Nat} (h:FormI S W t (.slice (some ⟨g,0,none⟩) n cap) dv j w) (hn:t.cols.length=n) (hj:j<t.cols.length):g<w.heap.size/\w.cell? ⟨g,j*4,none⟩=some (.string t.cols[j].nm)/\(∃ b,w.cell? ⟨g,j*4+2,none⟩=some (.bool b))/\w.frozen? ⟨g,j*4+2,none⟩=false:=by
 have hc:=h.c;rw[hn] at hc;have hj2:j<(doneC t.key t.cols j).length:=(by rw[cB];exact hj);obtain⟨c0,_,c2,_⟩:=jV (doneC t.key t.cols j) j hj2;rw[pF _ _ _ hj hj2] at c0;exact⟨(hc.lt g rfl).2,hc.cell c0,⟨_,hc.cell c2⟩,hc.frozenAt _⟩
end
theorem aCD {y:World} {base:Nat} {v:Value} {l:List C} (h:RdC y v l) (hl:l.length<=1000) (hb:base<=y.heap.size) (h0:0<l.length):∃ g cap w',(Builtin.append_ #[74,74] 74 #[.slice none 0 0,v]).run Tryz.prog y=.ok (.slice (some ⟨g,0,none⟩) l.length cap) w' /\
  HRow w' base 95 4 (.slice (some ⟨g,0,none⟩) l.length cap) l.length (cellsC l)/\Below y.heap.size y w':=by
 obtain⟨p,cap,rfl,_,_⟩:=h.slice;obtain⟨b,off,rfl,hb2,hcell⟩:=RdX.at h h0;obtain⟨i0,hi0,hz0,hz1,hz2⟩:=info_parts zK
 obtain⟨g,cap',w',h1,h2,h3,h4⟩:=aY (P:=Tryz.prog) y y.heap.size 74 74 95 i0 _ 4 48 Tryz.underlying74 hi0 hz0 hz1 hz2 rfl (by decide) (HRow.nil (w:=y) (base:=y.heap.size)) ⟨b,off,none⟩ l.length cap (cellsC l) (gX l) (fun j u hj=>by
  rw[Addr.add_lit];exact hcell j u hj) (mI l) h0 (by unfold maxLen;omega) (by omega) (Nat.le_refl _)
 rw[Nat.zero_add,List.nil_append] at *;exact⟨g,cap',w',h1,h2.mono hb,h3.os,h3.tape,h3.output,h3.size,fun q hq=>h3.block q hq (by simp[Value.ownBlock])⟩
theorem pG {t:T} {cv dv:Value} {W:World} (h:RdT W cv dv t) (hf:t.cols.length<=1000) (h0:0<t.cols.length):Calls Tryz.prog 68 #[.agg #[.string t.nm,cv,.string t.key,dv]] W fun e w'=>∃ p1 c1,e=.returned (.agg #[.string t.nm,.slice p1 t.cols.length c1,.string t.key,dv])/\RdT w' (.slice p1 t.cols.length c1) dv (formT t)/\Below W.heap.size W w':=by
 obtain⟨pc,cc,hcv,hc1,hc2⟩:=h.c.slice;obtain⟨p,cap,hdv,hc3,hc4⟩:=h.d.slice;obtain⟨n,hn⟩:∃ n,t.cols.length=n:=⟨_,rfl⟩;obtain⟨nd,hnd⟩:∃ n,t.deps.length=n:=⟨_,rfl⟩;obtain⟨S,hS⟩:∃ S,W.heap.size=S:=⟨_,rfl⟩;have hb1:=aD W (boxT t.nm cv t.key dv);have hb2:=hb1.alloc hb1.size (boxT e0 (.slice none 0 0) e0 (.slice none 0 0));have k0:=dH (u:=boxT e0 (.slice none 0 0) e0 (.slice none 0 0)) (heap_alloc_new W (boxT t.nm cv t.key dv));have k1:=heap_alloc_new (W.alloc (boxT t.nm cv t.key dv)) (boxT e0 (.slice none 0 0) e0 (.slice none 0 0));have hap:=aCD (base:=S+2) (h.later hb2).c hf (by rw[World.size_alloc,World.size_alloc,hS];exact Nat.le_refl _) h0;rw[hS] at k0;rw[World.size_alloc,hS] at k1;have hsz:((W.alloc (boxT t.nm cv t.key dv)).alloc (boxT e0 (.slice none 0 0) e0 (.slice none 0 0))).heap.size=S+2:=(by rw[World.size_alloc,World.size_alloc,hS]);obtain⟨w0,hw0⟩:∃ w0,(W.alloc (boxT t.nm cv t.key dv)).alloc (boxT e0 (.slice none 0 0) e0 (.slice none 0 0))=w0:=⟨_,rfl⟩;rw[hw0] at k0 k1 hb2 hap hsz;rw[hsz,hn] at hap;rw[hS] at hb2;rw[hnd] at hdv hc3;rw[hn] at hcv h0 hf;unfold maxLen at hc4;obtain⟨g,c1,w1,hrun,hr,hb⟩:=hap;have hbx:=(hb.block S (by omega)).trans k0;have hrs:=(hb.block (S+1) (by omega)).trans k1
 have hI:FormI S W t (.slice (some ⟨g,0,none⟩) n c1) dv 0 (w1.setCell ⟨S,1,none⟩ (.slice (some ⟨g,0,none⟩) n c1)):=by
  have hne:∀ (q:Nat),q≠S->(w1.setCell ⟨S,1,none⟩ (.slice (some ⟨g,0,none⟩) n c1)).heap[q]?=w1.heap[q]?:=(fun q h=>heap_setCell_other w1 ⟨S,1,none⟩ q _ h);refine⟨heap_setCell_same w1 S 1 _ _ _ hbx,(hne _ (by omega)).trans hrs,?_,(hb2.trans (hb.mono (by omega))).setCell (p:=⟨S,1,none⟩) (Nat.le_refl _) _⟩;rw[hn,mN];exact hr.of (fun k hk=>hne k (by have:=(hr.lt k hk).1;omega))
 have HI:=qAq hI;have HW:=qAq hw0;have HS:=qAq hS;have HN:=qAq (qBq hn (qBq hnd h.d));have z1:=aA k0 1;have zl:=aC k0;have y1:=aA hbx 1;have yf:=frozen_of_row w1 S 1 _ _ hbx;have yl:=aC hbx;subst hcv hdv;clear h hw0 hS k0 k1 hb1 hb2 hsz hr hb hbx hrs hI hn hnd;go_enter Tryz.func68,Tryz.ntmps68;go_upto_region 1 with fail;rw[HW.out,HS.out];go_upto_region 2 with (at_builtin;refine aK rfl (.const (.slice none 0 0)) (.tmp 5) 74 rfl rfl rfl hrun ?_);obtain⟨y2,hy2⟩:∃ y2,w1.setCell ⟨S,1,none⟩ (.slice (some ⟨g,0,none⟩) n c1)=y2:=⟨_,rfl⟩;rw[hy2] at HI ⊢;clear hy2 y1 yf yl z1 zl hrun;go_wp2_with fail;go_loopg [3] (n+1) (fun gh jv w=>∃ (j:Nat),jv=.int .i64 (j:Int)/\j<=n/\n+1<=j+gh/\FormI S W t (.slice (some ⟨g,0,none⟩) n c1) (.slice p nd cap) j w)
 case atStart=>exact⟨0,rfl,Nat.zero_le _,by omega,HI.out⟩
 obtain⟨j,rfl,hj,hg,hK⟩:=hrel;obtain⟨zl,_,z1,z2,_⟩:=hK.cells;by_cases hlt:j<n
 ·have hjl:j<t.cols.length:=(by rw[HN.out.1];exact hlt);obtain⟨gl,g0,⟨b,g2⟩,gf⟩:=hK.col HN.out.1 hjl;have HK:=qAq hK;have hji:(j:Int)<(n:Int):=(by omega);clear hK;obtain⟨c,hcj⟩:∃ c,t.cols[j]=c:=⟨_,rfl⟩;rw[hcj] at g0;have HC:=qAq hcj;clear hcj;go_upto_region 5 with fail;cases hx:eqS c.nm t.key
  ·have HX:=qAq hx;have hx2:(c.nm.toList==t.key.toList)=false:=(by rw[aR];exact hx);clear hx;refine Par.wp_region_par 9 [.pointer (some ⟨S,1,none⟩),.slice (some ⟨g,0,none⟩) n c1,.int .i64 ((j:Int)),.pointer (some ⟨g,j*4,none⟩),.pointer (some ⟨g,j*4,none⟩),.string (c.nm),.pointer (some ⟨S,2,none⟩),.string (t.key),.bool false] (fun w=>w=wr.drew) ?A1 ?hm1 ?hB1 ?hA1 (rfl) ?hop1 ?hT1
   case hm1=>kernel_rfl
   case hB1=>kernel_rfl
   case hA1 =>
    simp only[Par.putA,Par.dstAt,Act.put,qDq,qEq,qFq,qLq,qGq,qHq,qIq,qJq,qKq];rfl
   case hop1 =>
    simp only[qMq,List.take_zero,Par.GiveAll,and_true];and_intros<;>intro w' hR
    ·have HR:=qAq hR;obtain rfl:=hR;simp only[Par.Gives];go_simp;all_goals exact HR.out
    ·have HR:=qAq hR;obtain rfl:=hR;simp only[Par.Gives];go_simp;all_goals exact HR.out
    ·have HR:=qAq hR;obtain rfl:=hR;simp only[Par.Gives];go_simp;all_goals exact HR.out
    ·have HR:=qAq hR;obtain rfl:=hR;simp only[Par.Gives];go_simp;all_goals exact HR.out
    ·have HR:=qAq hR;obtain rfl:=hR;simp only[Par.Gives];go_simp;all_goals exact HR.out
    ·have HR:=qAq hR;obtain rfl:=hR;simp only[Par.Gives];go_simp;all_goals exact HR.out
    ·have HR:=qAq hR;obtain rfl:=hR;simp only[Par.Gives];go_simp;all_goals exact HR.out
    ·have HR:=qAq hR;obtain rfl:=hR;simp only[Par.Gives];go_simp;all_goals exact HR.out
    have HR:=qAq hR;obtain rfl:=hR;simp only[Par.Gives];go_simp;all_goals exact HR.out
   intro w' hR;simp only[qNq,List.drop_nil];obtain rfl:=hR;go_wp2_with fail;go_roundg (n-j)
   case measure=>omega
   exact⟨j+1,by go_num,by omega,by omega,(HK.out.on (aF wr)).skip hjl (by rw[HC.out];exact HX.out)⟩
  have HX:=qAq hx;have hx2:(c.nm.toList==t.key.toList)=true:=(by rw[aR];exact hx);clear hx;refine Par.wp_region_par 9 [.pointer (some ⟨S,1,none⟩),.slice (some ⟨g,0,none⟩) n c1,.int .i64 ((j:Int)),.pointer (some ⟨g,j*4,none⟩),.pointer (some ⟨g,j*4,none⟩),.string (c.nm),.pointer (some ⟨S,2,none⟩),.string (t.key),.bool true] (fun w=>w=wr.drew) ?A2 ?hm2 ?hB2 ?hA2 (rfl) ?hop2 ?hT2
  case hm2=>kernel_rfl
  case hB2=>kernel_rfl
  case hA2 =>
   simp only[Par.putA,Par.dstAt,Act.put,qDq,qEq,qFq,qLq,qGq,qHq,qIq,qJq,qKq];rfl
  case hop2 =>
   simp only[qMq,List.take_zero,Par.GiveAll,and_true];and_intros<;>intro w' hR
   ·have HR:=qAq hR;obtain rfl:=hR;simp only[Par.Gives];go_simp;all_goals exact HR.out
   ·have HR:=qAq hR;obtain rfl:=hR;simp only[Par.Gives];go_simp;all_goals exact HR.out
   ·have HR:=qAq hR;obtain rfl:=hR;simp only[Par.Gives];go_simp;all_goals exact HR.out
   ·have HR:=qAq hR;obtain rfl:=hR;simp only[Par.Gives];go_simp;all_goals exact HR.out
   ·have HR:=qAq hR;obtain rfl:=hR;simp only[Par.Gives];go_simp;all_goals exact HR.out
   ·have HR:=qAq hR;obtain rfl:=hR;simp only[Par.Gives];go_simp;all_goals exact HR.out
   ·have HR:=qAq hR;obtain rfl:=hR;simp only[Par.Gives];go_simp;all_goals exact HR.out
   ·have HR:=qAq hR;obtain rfl:=hR;simp only[Par.Gives];go_simp;all_goals exact HR.out
   have HR:=qAq hR;obtain rfl:=hR;simp only[Par.Gives];go_simp;all_goals exact HR.out
  intro w' hR;simp only[qNq,List.drop_nil];obtain rfl:=hR;go_wp2_with fail;go_roundg (n-j)
  case measure=>omega
  exact⟨j+1,by go_num,by omega,by omega,(HK.out.on (aF wr)).take HN.out.1 hjl (by rw[HC.out];exact HX.out)⟩
 obtain rfl:j=n:=(by omega);have hbox:=hK.box;have hres:=hK.res;have z0:=aA hbox 0;have z1:=aA hbox 1;have z2:=aA hbox 2;have z3:=aA hbox 3;have zl:=aC hbox;have r0:=aA hres 0;have r1:=aA hres 1;have r2:=aA hres 2;have r3:=aA hres 3;have rf:=(fun i=>frozen_of_row wr (S+1) i _ _ hres);have rl:=aC hres;have HK:=qAq hK;clear hK hbox hres;go_wp2_with fail;have hS4:=set4 HK.out.res (.string t.nm) (.slice (some ⟨g,0,none⟩) j c1) (.string t.key) (.slice p nd cap);have hBx:=bD HK.out.below (show S<=S+1 by omega) (.string t.nm) (.slice (some ⟨g,0,none⟩) j c1) (.string t.key) (.slice p nd cap);have hO:=cG wr (S+1);have ho:∀ q:Nat,q≠S+1->((((wr.setCell ⟨S+1,0,none⟩ (.string t.nm)).setCell ⟨S+1,1,none⟩ (.slice (some ⟨g,0,none⟩) j c1)).setCell ⟨S+1,2,none⟩ (.string t.key)).setCell ⟨S+1,3,none⟩ (.slice p nd cap)).heap[q]?=wr.heap[q]?:=(fun q h=>hO q h _ _ _ _);generalize (((wr.setCell _ _).setCell _ _).setCell _ _).setCell _ _=wz at hS4 hBx ho ⊢;have y0:=aA hS4 0;have y1:=aA hS4 1;have y2:=aA hS4 2;have y3:=aA hS4 3;refine bodyPost_ret (v:=.agg #[.string t.nm,(.slice (some ⟨g,0,none⟩) j c1),.string t.key,(.slice p nd cap)]) (by simp[results,Tryz.results68,go_sem,y0,y1,y2,y3]) rfl ?_;rw[HN.out.1,HS.out];refine⟨_,_,rfl,⟨?_,HN.out.2.2.later (by rw[HS.out];exact hBx)⟩,hBx⟩;have hc:=HK.out.c;have e:doneC t.key t.cols j=t.cols.map (formC t.key):=(by rw[<- HN.out.1,pE]);rw[e,HN.out.1] at hc;have hc2:=HRow.rdX (hc.of (fun k hk=>ho k (by have:=(hc.lt k hk).1;omega))) (by decide) (by decide);show RdX wz _ (t.cols.map (formC t.key)).length 4 _;rw[List.length_map,HN.out.1];exact hc2
theorem zL:∀ l:List UInt8,Op.bytesLess l l=false
 | []=>rfl
 | a::r=>by
  unfold Op.bytesLess;rw[zL r]
  simp
section
variable {S TB:Nat} {W w w':World} {t:T} {cv dv:Value} {nm key:ByteArray} {cs:List C} {ds:List D} {cu du:Value} {ps:List Value}
end
section
variable {B:Nat} {w w':World} {us:List T} {v:Value} {xs:List Value}
end
section
variable {H:Type} {enc:TypeId×Value->H} {W:World}
end
section
variable {H:Type} {enc:TypeId×Value->H} {W:World}
end
def Wd (W:World) (v:Value) (l:List ByteArray):Prop:=∃ p cap,v=.slice p l.length cap/\l.length<=cap/\cap<=maxLen/\(∀ a,p=some a->a.spot=none)/\(0<l.length->∃ b off cur m,p=some ⟨b,off,none⟩/\W.heap[b]?=some (.cells cur 9 m)/\∀ j (h:j<l.length),cur[off+j]?=some (.string l[j]))
section
variable {W W':World} {v:Value} {l:List ByteArray}
theorem Wd.rd (h:Wd W v l):RdS W v l:=by
 obtain⟨p,cap,h1,h2,h3,h4,h5⟩:=h;refine⟨mK l,p,cap,h1,h2,h3,h4,fun hn=>?_⟩;obtain⟨b,off,cur,m,a1,a2,a3⟩:=h5 hn;refine⟨b,off,cur,9,m,a1,a2,by decide,by decide,fun j u hj=>?_⟩;unfold cellsS at hj;rw[List.getElem?_map] at hj;by_cases hjl:j<l.length
 ·rw[List.getElem?_eq_getElem hjl] at hj;cases hj;exact a3 j hjl
 rw[List.getElem?_eq_none (by omega)] at hj;cases hj
end
section
variable {base:Nat} {v:Value} {vs us:List Value} {ps qs:List (List ByteArray)} {w w':World}
end
theorem Wd.lit {W:World} {b:Nat} {x:ByteArray} {m:Nat×Nat} (h:W.heap[b]?=some (.cells #[.string x] 9 m)):Wd W (.slice (some ⟨b,0,none⟩) 1 1) [x] :=
 ⟨_,1,rfl,Nat.le_refl _,by decide,fun a h=>(by cases h;rfl),fun _=>⟨b,0,_,m,rfl,h,fun j hj=>by
  have:j=0:=(by simp at hj;omega);subst this;rfl⟩⟩
theorem sU:∀ (os:List Obj) (W:World) (k:Nat),k<W.heap.size->(os.foldl World.alloc W).heap[k]?=W.heap[k]?
 | [],_,_,_=>rfl
 | o::os,W,k,h=>by
  rw[List.foldl_cons,sU os _ _ (by rw[World.size_alloc];omega)];exact Below.heap_alloc W o k h
theorem zM:∀ (os:List Obj) (W:World) (i:Nat),i<os.length->(os.foldl World.alloc W).heap[W.heap.size+i]?=os[i]?
 | [],_,_,h=>absurd h (Nat.not_lt_zero _)
 | o::os,W,0,_=>by
  rw[List.foldl_cons,sU os _ _ (by rw[World.size_alloc];omega)];exact heap_alloc_new W o
 | o::os,W,i+1,h=>by
  rw[List.foldl_cons]
  have:=zM os (W.alloc o) i (by simpa using h)
  rw[World.size_alloc] at this;rw[show W.heap.size+(i+1)=W.heap.size+1+i by omega,this];rfl
theorem gY:∀ (os:List Obj) (W:World),Below W.heap.size W (os.foldl World.alloc W)
 | [],_=>Below.refl _ _
 | o::os,W=>by
  rw[List.foldl_cons];exact aB (aD W o) (gY os _)
theorem aCE {W:World} {b b2:Nat} {x r:ByteArray} (h:W.heap[b]?=some (.cells #[.slice (some ⟨b2,0,none⟩) 1 1,.string r] 124)) (h2:W.heap[b2]?=some (.cells #[.string x] 9)):RdD W (.slice (some ⟨b,0,none⟩) 1 1) [⟨[x],r⟩] :=
 ⟨[.slice (some ⟨b2,0,none⟩) 1 1],rfl,⟨rfl,_,1,rfl,Nat.le_refl _,by decide,fun a h=>(by cases h;rfl),fun _=>⟨b,0,_,124,_,rfl,h,by decide,by decide,fun j u hj=>by
  rw[Nat.zero_add,List.getElem?_toArray];exact hj⟩⟩,fun j a b=>by
  have:j=0:=(by simp at a;omega);subst this;exact (Wd.lit h2).rd⟩
abbrev sLand:ByteArray:=⟨#[108,97,110,100]⟩
abbrev sId:ByteArray:=⟨#[105,100]⟩
abbrev sName:ByteArray:=⟨#[110,97,109,101]⟩
abbrev sShop:ByteArray:=⟨#[115,104,111,112]⟩
abbrev sCity:ByteArray:=⟨#[99,105,116,121]⟩
abbrev sZone:ByteArray:=⟨#[122,111,110,101]⟩
abbrev sDay:ByteArray:=⟨#[100,97,121]⟩
abbrev sD:ByteArray:=⟨#[100]⟩
abbrev sMonth:ByteArray:=⟨#[109,111,110,116,104]⟩
abbrev sYear:ByteArray:=⟨#[121,101,97,114]⟩
abbrev sSale:ByteArray:=⟨#[115,97,108,101]⟩
abbrev sN:ByteArray:=⟨#[110]⟩
abbrev sTag:ByteArray:=⟨#[116,97,103]⟩
def tLand:T:=⟨sLand,[⟨sId,1,false,e0⟩,⟨sName,2,false,e0⟩],sId,[]⟩
def tShopS:T:=⟨sShop,[⟨sId,1,false,e0⟩,⟨sCity,2,true,e0⟩,⟨sZone,2,false,e0⟩,⟨sLand,1,false,sLand⟩],sId,[⟨[sCity],sZone⟩]⟩
def tDay:T:=⟨sDay,[⟨sD,2,false,e0⟩,⟨sMonth,1,true,e0⟩,⟨sYear,1,false,e0⟩],sD,[⟨[sMonth],sYear⟩]⟩
def tSaleS:T:=⟨sSale,[⟨sShop,1,false,sShop⟩,⟨sDay,2,false,sDay⟩,⟨sN,1,false,e0⟩,⟨sTag,2,false,e0⟩],e0,[]⟩
def starT:List T:=[tLand,tShopS,tDay,tSaleS]
def sl (b n:Nat):Value:=.slice (some ⟨b,0,none⟩) n n
def starCells (S:Nat):List Value:=[.string sLand,sl S 2,.string sId,.slice none 0 0,.string sShop,sl (S+1) 4,.string sId,sl (S+3) 1,.string sDay,sl (S+4) 3,.string sD,sl (S+6) 1,.string sSale,sl (S+7) 4,.string e0,.slice none 0 0]
def starO (S:Nat):List Obj:=[.cells (cellsC tLand.cols).toArray 95,.cells (cellsC tShopS.cols).toArray 95,.cells #[.string sCity] 9,.cells #[sl (S+2) 1,.string sZone] 124,.cells (cellsC tDay.cols).toArray 95,.cells #[.string sMonth] 9,.cells #[sl (S+5) 1,.string sYear] 124,.cells (cellsC tSaleS.cols).toArray 95,.cells (starCells S).toArray 77]
theorem sV (W:World):RdTs ((starO W.heap.size).foldl World.alloc W) (sl (W.heap.size+8) 4) starT:=by
 have h:=(fun i hi=>zM (starO W.heap.size) W i hi);obtain⟨w,hw⟩:∃ w,(starO W.heap.size).foldl World.alloc W=w:=⟨_,rfl⟩;rw[hw] at h ⊢;obtain⟨S,hS⟩:∃ S,W.heap.size=S:=⟨_,rfl⟩;rw[hS] at h ⊢;have h0:=h 0 (show (0:Nat)<9 by decide);have h1:=h 1 (show (1:Nat)<9 by decide);have h2:=h 2 (show (2:Nat)<9 by decide);have h3:=h 3 (show (3:Nat)<9 by decide);have h4:=h 4 (show (4:Nat)<9 by decide);have h5:=h 5 (show (5:Nat)<9 by decide);have h6:=h 6 (show (6:Nat)<9 by decide);have h7:=h 7 (show (7:Nat)<9 by decide);have h8:=h 8 (show (8:Nat)<9 by decide);have t0:RdT w (sl S 2) (.slice none 0 0) tLand:=⟨RdC.lit (l:=tLand.cols) h0 (by decide),RdD.none _⟩;have t1:RdT w (sl (S+1) 4) (sl (S+3) 1) tShopS:=⟨RdC.lit (l:=tShopS.cols) h1 (by decide),aCE (b2:=S+2) h3 h2⟩;have t2:RdT w (sl (S+4) 3) (sl (S+6) 1) tDay:=⟨RdC.lit (l:=tDay.cols) h4 (by decide),aCE (b2:=S+5) h6 h5⟩;have t3:RdT w (sl (S+7) 4) (.slice none 0 0) tSaleS:=⟨RdC.lit (l:=tSaleS.cols) h7 (by decide),RdD.none _⟩;refine⟨_,4,starCells S,rfl,Nat.le_refl _,by decide,fun _=>⟨S+8,0,rfl,aC h8,fun j u hj=>?_⟩,rfl,fun j hj=>?_⟩
 ·rw[aA h8,Nat.zero_add,List.getElem?_toArray];exact hj
 match j,hj with
 | 0,_=>exact⟨_,_,rfl,rfl,rfl,rfl,t0⟩
 | 1,_=>exact⟨_,_,rfl,rfl,rfl,rfl,t1⟩
 | 2,_=>exact⟨_,_,rfl,rfl,rfl,rfl,t2⟩
 | 3,_=>exact⟨_,_,rfl,rfl,rfl,rfl,t3⟩
 | j+4,hj=>exact absurd hj (by simp[starT])
theorem aCF (W:World):Calls Tryz.prog 33 #[] W fun e w'=>∃ v,e=.returned v/\RdTs w' v starT/\Below W.heap.size W w':=by
 have HM:=qAq (qBq (sV W) (gY (starO W.heap.size) W));go_enter Tryz.func33,Tryz.ntmps33;go_wp2_with fail;go_ret;exact⟨_,rfl,HM.out.1,HM.out.2⟩
section
variable {S:Nat} {W w w':World} {ks:List T} {v:Value}
end
abbrev zC:Obj:=.cells #[.string e0,.int .i64 0,.bool false,.string e0] 95
abbrev oC (c:C):Obj:=.cells #[.string c.nm,.int .i64 c.kd,.bool c.mu,.string c.tgt] 95
structure Je (w0:World) (E:Nat->Value) (c:C) (l:Nat->Bool) (vs:Nat->Value) (w:World):Prop where
 b:Below w0.heap.size w0 w
 ev:∀ j,j<10->l j=true->vs j=E j
 p10:l 10=true->∃ g,vs 10=(Value.pointer (some ⟨g,0,none⟩))/\w0.heap.size<=g/\w.heap[g]?=some (if l 12=true then oC c else zC)
 p11:l 11=true->∃ g,vs 11=(Value.pointer (some ⟨g,0,none⟩))/\w0.heap.size<=g/\w.heap[g]?=some zC
 ne:l 10=true->l 11=true->vs 10≠vs 11
section
open Par
variable {w0 w:World} {E:Nat->Value} {c:C} {l:Nat->Bool} {vs:Nat->Value}
theorem aI {l:Nat->Bool} {i j:Nat} (h:j≠i):upB l i j=l j:=by simp[upB,h]
theorem aJ {vs:Nat->Value} {i j:Nat} {v:Value} (h:j≠i):upV vs i v j=vs j:=by simp[upV,h]
theorem bW {l:Nat->Bool} {i:Nat}:upB l i i=true:=by simp[upB]
theorem aS {vs:Nat->Value} {i:Nat} {v:Value}:upV vs i v i=v:=by simp[upV]
end
