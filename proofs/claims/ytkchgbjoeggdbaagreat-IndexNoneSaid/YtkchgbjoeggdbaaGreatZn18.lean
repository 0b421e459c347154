import Derived.Test.YtkchgbjoeggdbaaGreatZn17
import Derived.Lib.SliceRun
import Derived.Laws.Cover1
set_option maxHeartbeats 2000000
set_option maxRecDepth 100000
namespace Go.Proofs.YtkchgbjoeggdbaaGreat
open Go.Proofs.Tryz
open Go Go.RowKit Go.Proofs
def mt(e:TypeId):Bool:=!(e==107 || e==9 || e==155)
def ip(a b:ByteArray):Bool:=a.data.toList==b.data.toList
theorem aQ(a b:ByteArray):(a.toList==b.toList)=ip a b:=by rw[wj,wj];rfl
theorem eJ{a b:ByteArray}:ip a b=true↔a=b:=by
 unfold ip;rw[vq];constructor
 ·intro h;cases a;cases b
  congr 1
  exact Array.toList_inj.1 h
 rintro rfl;rfl
section
variable{α:Type}{p:α->Bool}
theorem dT:∀(l:List α) (j:Nat) (h:j<l.length),p l[j]=true->(∀i (d:i<j),p (l[i]'(by omega))=false)->l.find? p=some l[j]/\l.any p=true/\l.findIdx? p=some j
 | [],j,h,_,_=>absurd h (yh j)
 | a::r,0,_,b,_=>by
  have b:p a=true:=b;simp[List.any_cons,List.findIdx?_cons,b]
 | a::r,j+1,h,b,hn=>by
  have c:p a=false:=hn 0 (by omega);have e:j<r.length:=(by simpa using h);obtain⟨f,g,k⟩:=dT r j e b (fun i d=>hn (i+1) (by omega));refine⟨?_,?_,?_⟩
  ·rw[List.find?_cons,c];exact f
  ·rw[List.any_cons,c];exact g
  ·rw[List.findIdx?_cons,c,k];rfl
theorem iH(l:List α)(hn:∀i (b:i<l.length),p l[i]=false):l.find? p=none/\l.any p=false/\l.findIdx? p=none:=by
 have h:∀x∈l,p x=false:=fun x a=>by
  obtain⟨i,b,rfl⟩:=xp a;exact hn i b
 refine⟨?_,?_,?_⟩
 ·rw[vz];intro x a;simp[h x a]
 ·rw[v6];intro x a;simp[h x a]
 rw[List.findIdx?_eq_none_iff];exact h
end
structure C where
 nm:ByteArray
 kd:Int
 mu:Bool
 tgt:ByteArray
structure D where
 left:List ByteArray
 right:ByteArray
structure T where
 nm:ByteArray
 cols:List C
 key:ByteArray
 deps:List D
abbrev e0:ByteArray:=⟨#[]⟩
def mw(x:ByteArray)(c:C):Bool:=ip c.nm x
def cp(l:List C)(x:ByteArray):Bool:=l.any (mw x)
def dt(l:List C)(x:ByteArray):Option C:=l.find? (mw x)
def fx(l:List C)(x:ByteArray):Int:=match l.findIdx? (mw x)with|none=>-1|some j=>(j:Int)
def qb(x:ByteArray)(t:T):Bool:=ip t.nm x
def bg(l:List T)(x:ByteArray):Option T:=l.find? (qb x)
def fe(l:List T)(x:ByteArray):Bool:=l.any (qb x)
def ja(l:List ByteArray)(x:ByteArray):Bool:=l.any (ip x)
def lu(key:ByteArray)(c:C):C:={ c with mu:=c.mu || ip c.nm key }
def bj(t:T):T:={ t with cols:=t.cols.map (lu t.key) }
def jn(W:World)(v:Value)(n k:Nat)(xs:List Value):Prop:=
 xs.length=n*k/\∃p cap,v=.slice p n cap/\n<=cap/\cap<=maxLen/\(∀a,p=some a->a.spot=none)/\(0<n->∃b off cur e m,p=some ⟨b,off,none⟩/\W.heap[b]?=some (.cells cur e m)/\e≠105/\mt e=false/\∀j u,xs[j]?=some u->cur[off+j]?=some u)
def Kp(W W':World):Prop:=∀(b:Nat) (cur:Array Value) (e:TypeId) (m:Nat×Nat),W.heap[b]?=some (Obj.cells cur e m)->e≠105->mt e=false->W'.heap[b]?=some (Obj.cells cur e m)
theorem Kp.trans{A B C:World}(h:Kp A B)(k:Kp B C):Kp A C:=fun b a e m x y z=>k b a e m (h b a e m x y z) y z
theorem Kp.below{W W':World}(h:Below W.heap.size W W'):Kp W W':=fun b _ _ _ x _ _=>(h.block b (aB x)).trans x
section
variable{W W':World}{v:Value}{n k:Nat}{xs:List Value}
theorem jn.kp(h:jn W v n k xs)(hk:Kp W W'):jn W' v n k xs:=by
 obtain⟨j,p,c,l,o,q,d,r⟩:=h;refine⟨j,p,c,l,o,q,d,fun s=>?_⟩;obtain⟨b,f,a,e,m,t,u,g,i,w⟩:=r s;exact⟨b,f,a,e,m,t,hk b a e m u g i,g,i,w⟩
theorem jn.slice(h:jn W v n k xs):∃p a,v=.slice p n a/\n<=a/\a<=maxLen:=by
 obtain⟨f,p,a,b,c,d,e,g⟩:=h;exact⟨p,a,b,c,d⟩
theorem jn.spot{p:Option Addr}{cap:Nat}(h:jn W (.slice p n cap) n k xs):p=none∨∃b c,p=some ⟨b,c,none⟩:=by
 obtain⟨g,i,e,f,j,l,d,m⟩:=h;obtain⟨rfl,-,rfl⟩:=Value.slice.inj f;cases p with
 | none=>exact .inl rfl
 | some a =>
  have:=d a rfl
  obtain⟨b,c,s⟩:=a;obtain rfl:s=none:=this;exact .inr ⟨b,c,rfl⟩
theorem jn.at{p:Option Addr}{cap:Nat}(h:jn W (.slice p n cap) n k xs)(hn:0<n):∃b a,p=some ⟨b,a,none⟩/\b<W.heap.size/\∀j u,xs[j]?=some u->W.cell? ⟨b,a+j,none⟩=some u:=by
 obtain⟨s,t,c,f,v,w,g,i⟩:=h;obtain⟨rfl,-,rfl⟩:=Value.slice.inj f;obtain⟨b,a,l,e,m,o,d,x,y,q⟩:=i hn;exact⟨b,a,o,aB d,fun j u r=>by simp only[World.cell?,d];exact q j u r⟩
theorem jn.take{p:Option Addr}{cap:Nat}(h:jn W (.slice p n cap) n k xs){i:Nat}(hi:i<=n):jn W (.slice p i cap) i k (xs.take (i*k)):=by
 obtain⟨l,z,g,o,A,q,c,r⟩:=h;obtain⟨rfl,-,rfl⟩:=Value.slice.inj o;have s:i*k<=n*k:=Nat.mul_le_mul_right _ hi;refine⟨by rw[xq,l];omega,p,cap,rfl,by omega,q,c,fun B=>?_⟩;obtain⟨b,d,f,e,m,t,v,w,x,y⟩:=r (by omega);refine⟨b,d,f,e,m,t,v,w,x,fun j u a=>y j u ?_⟩;rw[List.getElem?_take]at a;split at a
 ·exact a
 cases a
theorem ac.Bu{base:Nat}{e:TypeId}(h:ac W base e k v n xs)(h1:e≠105)(h2:mt e=false):jn W v n k xs:=by
 refine⟨h.1,?_⟩;rcases h.2 with ⟨rfl,rfl⟩ | ⟨g,c,d,rfl,o,f,i,l,p,m⟩
 ·exact⟨none,0,rfl,zo _,zj _,fun a h=>(by cases h),fun h=>absurd h (vu _)⟩
 refine⟨some ⟨g,0,none⟩,c,rfl,i,l,fun a h=>(by cases h;rfl),fun _=>⟨g,0,d,e,_,rfl,f,h1,h2,fun j u b=>?_⟩⟩;rw[<-m,List.getElem?_take]at b;split at b
 ·rw[xj,<-Array.getElem?_toList];exact b
 cases b
end
def be(l:List C):List Value:=l.flatMap fun c=>[.string c.nm,.int .i64 c.kd,.bool c.mu,.string c.tgt]
def cellsS(l:List ByteArray):List Value:=l.map Value.string
theorem bK(c:C)(r:List C):be (c::r)=.string c.nm::.int .i64 c.kd::.bool c.mu::.string c.tgt::be r:=by simp[be]
theorem gF(xs:List C):(be xs).length=xs.length*4:=by
 induction xs with
 | nil=>rfl
 | cons x r ih=>rw[bK];simp only[xa,ih];omega
theorem jG(xs:List C)(i:Nat)(h:i<xs.length):(be xs)[i*4]?=some (.string xs[i].nm)/\(be xs)[i*4+1]?=some (.int .i64 xs[i].kd)/\(be xs)[i*4+2]?=some (.bool xs[i].mu)/\(be xs)[i*4+3]?=some (.string xs[i].tgt):=by
 induction xs generalizing i with
 | nil=>simp at h
 | cons y r ih =>
  cases i with
  | zero=>simp[bK]
  | succ i =>
   have:=ih i (by simpa using h)
   rw[bK,show(i+1)*4=i*4+1+1+1+1 by omega,show i*4+1+1+1+1+1=i*4+1+1+1+1+1 by omega,show i*4+1+1+1+1+2=i*4+2+1+1+1+1 by omega,show i*4+1+1+1+1+3=i*4+3+1+1+1+1 by omega];simp only[dz,List.getElem_cons_succ];exact this
theorem rM(xs:List C)(i:Nat):(be xs).take (i*4)=be (xs.take i):=by
 induction xs generalizing i with
 | nil=>simp[be]
 | cons y r ih =>
  cases i with
  | zero=>simp[be]
  | succ i=>rw[bK,show(i+1)*4=i*4+1+1+1+1 by omega];simp only[en,bK,ih]
def fj(W:World)(v:Value)(l:List C):Prop:=jn W v l.length 4 (be l)
def kh(W:World)(v:Value)(l:List ByteArray):Prop:=jn W v l.length 1 (cellsS l)
theorem fj.col{W:World}{p:Option Addr}{n cap:Nat}{l:List C}(h:fj W (.slice p n cap) l){i:Nat}(hi:i<l.length):∃b a,p=some ⟨b,a,none⟩/\b<W.heap.size/\W.cell? ⟨b,a+i*4,none⟩=some (.string l[i].nm)/\W.cell? ⟨b,a+i*4+1,none⟩=some (.int .i64 l[i].kd)/\W.cell? ⟨b,a+i*4+2,none⟩=some (.bool l[i].mu)/\W.cell? ⟨b,a+i*4+3,none⟩=some (.string l[i].tgt):=by
 obtain⟨_,_,e,_,_⟩:=jn.slice h;obtain⟨rfl,rfl,rfl⟩:=Value.slice.inj e;obtain⟨b,a,d,f,c⟩:=jn.at h (by omega);obtain⟨c0,c1,c2,c3⟩:=jG l i hi;exact⟨b,a,d,f,c _ _ c0,by rw[Nat.add_assoc];exact c _ _ c1,by rw[Nat.add_assoc];exact c _ _ c2,by rw[Nat.add_assoc];exact c _ _ c3⟩
theorem kh.word{W:World}{p:Option Addr}{n cap:Nat}{l:List ByteArray}(h:kh W (.slice p n cap) l){i:Nat}(hi:i<l.length):∃b a,p=some ⟨b,a,none⟩/\b<W.heap.size/\W.cell? ⟨b,a+i,none⟩=some (.string l[i]):=by
 obtain⟨_,_,e,_,_⟩:=jn.slice h;obtain⟨rfl,rfl,rfl⟩:=Value.slice.inj e;obtain⟨b,a,c,d,f⟩:=jn.at h (by omega);exact⟨b,a,c,d,f _ _ (by unfold cellsS;rw[xe,z6 hi];rfl)⟩
theorem mn{x:World}{b:Nat}{a0 a1 a2 a3:Value}{t:TypeId}(h:x.heap[b]?=some (.cells #[a0,a1,a2,a3] t))(a c d e:Value):((((x.setCell ⟨b,0,none⟩ a).setCell ⟨b,1,none⟩ c).setCell ⟨b,2,none⟩ d).setCell ⟨b,3,none⟩ e).heap[b]?=some (.cells #[a,c,d,e] t):=by
 rw[y7 _ b 3 #[a,c,d,a3] t e (y7 _ b 2 #[a,c,a2,a3] t d (y7 _ b 1 #[a,a1,a2,a3] t c (y7 _ b 0 #[a0,a1,a2,a3] t a h)))];rfl
theorem bB{n b:Nat}{A x:World}(h:Below n A x)(hb:n<=b)(a c d e:Value):Below n A ((((x.setCell ⟨b,0,none⟩ a).setCell ⟨b,1,none⟩ c).setCell ⟨b,2,none⟩ d).setCell ⟨b,3,none⟩ e):=
 (((h.setCell (p:=⟨b,0,none⟩) hb a).setCell (p:=⟨b,1,none⟩) hb c).setCell (p:=⟨b,2,none⟩) hb d).setCell (p:=⟨b,3,none⟩) hb e
theorem cR{x:World}{b:Nat}{o u:Obj}(h:x.heap[b]?=some o):(x.alloc u).heap[b]?=some o:=(we x u b (aB h)).trans h
theorem fj.slice{W:World}{v:Value}{l:List C}(h:fj W v l):∃p a,v=.slice p l.length a/\l.length<=a/\a<=maxLen:=jn.slice h
theorem kh.slice{W:World}{v:Value}{l:List ByteArray}(h:kh W v l):∃p a,v=.slice p l.length a/\l.length<=a/\a<=maxLen:=jn.slice h
theorem fj.take{W:World}{p:Option Addr}{n cap:Nat}{l:List C}(h:fj W (.slice p n cap) l){i:Nat}(hi:i<=n):fj W (.slice p i cap) (l.take i):=by
 obtain⟨_,_,e,_,_⟩:=jn.slice h;obtain⟨-,rfl,-⟩:=Value.slice.inj e
 have:=jn.take h hi
 unfold fj;rw[<-rM,xq,Nat.min_eq_left hi];exact this
theorem kh.take{W:World}{p:Option Addr}{n cap:Nat}{l:List ByteArray}(h:kh W (.slice p n cap) l){i:Nat}(hi:i<=n):kh W (.slice p i cap) (l.take i):=by
 obtain⟨_,_,e,_,_⟩:=jn.slice h;obtain⟨-,rfl,-⟩:=Value.slice.inj e
 have:=jn.take h hi
 unfold kh;rw[xq,Nat.min_eq_left hi];unfold cellsS at this ⊢;rw[Nat.mul_one,<-List.map_take]at this;exact this
def cellsD:List Value->List D->List Value
 | p::ps,d::ds=>p::.string d.right::cellsD ps ds
 | _,_=>[]
theorem oD:∀(ps:List Value) (ds:List D) (i:Nat) (h:i<ps.length) (a:i<ds.length),(cellsD ps ds)[i*2]?=some ps[i]/\(cellsD ps ds)[i*2+1]?=some (.string ds[i].right)
 | [],_,_,h,_=>absurd h (yh _)
 | _::_,[],_,_,h=>absurd h (yh _)
 | p::ps,d::ds,0,_,_=>⟨rfl,rfl⟩
 | p::ps,d::ds,i+1,h,a=>by
  have:=oD ps ds i (by simpa using h) (by simpa using a)
  rw[show(i+1)*2=i*2+1+1 by omega];simp only[cellsD,dz,List.getElem_cons_succ];exact this
theorem gC:∀(ps:List Value) (ds:List D) (q:List Value) (a:List D),ps.length=ds.length->cellsD (ps++q) (ds++a)=cellsD ps ds++cellsD q a
 | [],[],_,_,_=>rfl
 | [],_::_,_,_,h=>by simp at h
 | _::_,[],_,_,h=>by simp at h
 | p::ps,d::ds,q,a,h=>by
  have:=gC ps ds q a (by simpa using h)
  simp only[IV,cellsD,this]
def px(W:World)(v:Value)(ds:List D):Prop:=∃ps:List Value,ps.length=ds.length/\jn W v ds.length 2 (cellsD ps ds)/\∀j (h:j<ps.length) (h':j<ds.length),kh W ps[j] ds[j].left
theorem fj.kp{W W':World}{v:Value}{l:List C}(h:fj W v l)(hk:Kp W W'):fj W' v l:=jn.kp h hk
theorem fj.later{W W':World}{v:Value}{l:List C}(h:fj W v l)(hb:Below W.heap.size W W'):fj W' v l:=jn.kp h (.below hb)
theorem kh.kp{W W':World}{v:Value}{l:List ByteArray}(h:kh W v l)(hk:Kp W W'):kh W' v l:=jn.kp h hk
theorem kh.later{W W':World}{v:Value}{l:List ByteArray}(h:kh W v l)(hb:Below W.heap.size W W'):kh W' v l:=jn.kp h (.below hb)
theorem px.kp{W W':World}{v:Value}{ds:List D}(h:px W v ds)(hk:Kp W W'):px W' v ds:=by
 obtain⟨ps,c,d,e⟩:=h;exact⟨ps,c,jn.kp d hk,fun j a b=>(e j a b).kp hk⟩
theorem px.later{W W':World}{v:Value}{ds:List D}(h:px W v ds)(hb:Below W.heap.size W W'):px W' v ds:=h.kp (.below hb)
theorem px.slice{W:World}{v:Value}{ds:List D}(h:px W v ds):∃p a,v=.slice p ds.length a/\ds.length<=a/\a<=maxLen:=by
 obtain⟨ps,c,b,d⟩:=h;exact jn.slice b
theorem px.dep{W:World}{p:Option Addr}{n cap:Nat}{ds:List D}(h:px W (.slice p n cap) ds){i:Nat}(hi:i<ds.length):∃b a lv,p=some ⟨b,a,none⟩/\b<W.heap.size/\W.cell? ⟨b,a+i*2,none⟩=some lv/\W.cell? ⟨b,a+i*2+1,none⟩=some (.string ds[i].right)/\kh W lv ds[i].left:=by
 obtain⟨ps,k,c,f⟩:=h;obtain⟨_,_,e,_,_⟩:=jn.slice c;obtain⟨rfl,rfl,rfl⟩:=Value.slice.inj e;obtain⟨b,a,g,j,d⟩:=jn.at c (by omega);obtain⟨c0,c1⟩:=oD ps ds i (by omega) hi;exact⟨b,a,_,g,j,d _ _ c0,by rw[Nat.add_assoc];exact d _ _ c1,f i (by omega) hi⟩
def dw(W:World)(cv dv:Value)(t:T):Prop:=fj W cv t.cols/\px W dv t.deps
theorem dw.kp{W W':World}{cv dv:Value}{t:T}(h:dw W cv dv t)(hk:Kp W W'):dw W' cv dv t:=⟨h.1.kp hk,h.2.kp hk⟩
theorem dw.later{W W':World}{cv dv:Value}{t:T}(h:dw W cv dv t)(hb:Below W.heap.size W W'):dw W' cv dv t:=h.kp (.below hb)
def me(B:Nat)(W0:World)(S:Nat)(c:C)(v:Value)(l:List C)(w:World):Prop:=
 w.heap[S]?=some (.cells #[.string c.nm,.int .i64 c.kd,.bool c.mu,.string c.tgt] 107)/\fj w v l/\Below B W0 w/\B<=S
theorem me.on{B:Nat}{W0:World}{S:Nat}{c:C}{v:Value}{l:List C}{w w':World}(h:me B W0 S c v l w)(hb:Below w.heap.size w w'):me B W0 S c v l w':=
 ⟨(hb.block _ (aB h.1)).trans h.1,h.2.1.later hb,h.2.2.1.trans (hb.mono (zx h.2.2.2 (Nat.le_of_lt (aB h.1)))),h.2.2.2⟩
theorem me.cell{B:Nat}{W0:World}{S:Nat}{c:C}{v:Value}{l:List C}{w:World}(h:me B W0 S c v l w):S<w.heap.size/\w.cell? ⟨S,0,none⟩=some (.string c.nm)/\w.cell? ⟨S,1,none⟩=some (.int .i64 c.kd)/\w.cell? ⟨S,2,none⟩=some (.bool c.mu)/\w.cell? ⟨S,3,none⟩=some (.string c.tgt):=
 ⟨aB h.1,aA h.1 0,aA h.1 1,aA h.1 2,aA h.1 3⟩
theorem me.new{B:Nat}{W0:World}{c:C}{v:Value}{l:List C}{w:World}(hl:fj w v l)(hb:Below B W0 w)(hB:B<=w.heap.size):me B W0 w.heap.size c v l (w.alloc (.cells #[.string c.nm,.int .i64 c.kd,.bool c.mu,.string c.tgt] 107)):=
 ⟨z7 w _,hl.later (aD w _),hb.alloc hB _,hB⟩
abbrev ar(nm:ByteArray)(cv:Value)(key:ByteArray)(dv:Value):Obj:=.cells #[.string nm,cv,.string key,dv] 60
theorem aE{w w':World}{b:Nat}{o:Obj}(hb:Below w.heap.size w w')(h:w.heap[b]?=some o):w'.heap[b]?=some o:=(hb.block _ (aB h)).trans h
structure ep (B:Nat) (W0:World) (S0:Nat) (t:T) (cv dv:Value) (w:World):Prop where
 box:w.heap[S0]?=some (ar t.nm cv t.key dv)
 tab:dw w cv dv t
 below:Below B W0 w
 le:B<=S0
section
variable{B:Nat}{W0:World}{S0:Nat}{t:T}{cv dv:Value}{w w':World}
theorem ep.size(h:ep B W0 S0 t cv dv w):B<=w.heap.size:=zx h.le (Nat.le_of_lt (aB h.box))
theorem ep.on(h:ep B W0 S0 t cv dv w)(hb:Below w.heap.size w w'):ep B W0 S0 t cv dv w':=
 ⟨aE hb h.box,h.tab.later hb,h.below.trans (hb.mono h.size),h.le⟩
theorem ep.cells(h:ep B W0 S0 t cv dv w):S0<w.heap.size/\w.cell? ⟨S0,0,none⟩=some (.string t.nm)/\w.cell? ⟨S0,1,none⟩=some cv/\w.cell? ⟨S0,2,none⟩=some (.string t.key)/\w.cell? ⟨S0,3,none⟩=some dv:=
 ⟨aB h.box,aA h.box 0,aA h.box 1,aA h.box 2,aA h.box 3⟩
theorem ep.new(h:dw w cv dv t):ep w.heap.size w w.heap.size t cv dv (w.alloc (ar t.nm cv t.key dv)):=
 ⟨z7 w _,h.later (aD w _),aD w _,zo _⟩
end
structure it (B:Nat) (W0:World) (S0 S:Nat) (t:T) (cv dv:Value) (d:D) (lv:Value) (w:World):Prop where
 tb:ep B W0 S0 t cv dv w
 dep:w.heap[S]?=some (.cells #[lv,.string d.right] 155)
 left:kh w lv d.left
section
variable{B:Nat}{W0:World}{S0 S:Nat}{t:T}{cv dv:Value}{d:D}{lv:Value}{w w':World}
theorem it.on(h:it B W0 S0 S t cv dv d lv w)(hb:Below w.heap.size w w'):it B W0 S0 S t cv dv d lv w':=
 ⟨h.tb.on hb,aE hb h.dep,h.left.later hb⟩
theorem it.cells(h:it B W0 S0 S t cv dv d lv w):S<w.heap.size/\w.cell? ⟨S,0,none⟩=some lv/\w.cell? ⟨S,1,none⟩=some (.string d.right):=
 ⟨aB h.dep,aA h.dep 0,aA h.dep 1⟩
theorem it.new(h:ep B W0 S0 t cv dv w)(hl:kh w lv d.left):it B W0 S0 w.heap.size t cv dv d lv (w.alloc (.cells #[lv,.string d.right] 155)):=
 ⟨h.on (aD w _),z7 w _,hl.later (aD w _)⟩
end
def ju(W:World)(xs:List Value)(ts:List T):Prop:=xs.length=ts.length*4/\∀j (h:j<ts.length),∃cv dv,xs[j*4]?=some (.string ts[j].nm)/\xs[j*4+1]?=some cv/\xs[j*4+2]?=some (.string ts[j].key)/\xs[j*4+3]?=some dv/\dw W cv dv ts[j]
theorem ju.kp{W W':World}{xs:List Value}{ts:List T}(h:ju W xs ts)(hk:Kp W W'):ju W' xs ts:=⟨h.1,fun j a=>by
 obtain⟨cv,dv,b,c,d,e,f⟩:=h.2 j a;exact⟨cv,dv,b,c,d,e,f.kp hk⟩⟩
theorem ju.nil(W:World):ju W [] []:=⟨rfl,fun j h=>absurd h (yh j)⟩
theorem ju.snoc{W:World}{xs:List Value}{ts:List T}(h:ju W xs ts){t:T}{cv dv:Value}(ht:dw W cv dv t):ju W (xs++[.string t.nm,cv,.string t.key,dv]) (ts++[t]):=by
 refine⟨by simp[h.1];omega,fun j a=>?_⟩;by_cases e:j<ts.length
 ·obtain⟨cv,dv,b,c,d,f,g⟩:=h.2 j e;rw[yx e];exact⟨cv,dv,by rw[xu (by rw[h.1];omega)];exact b,by rw[xu (by rw[h.1];omega)];exact c,by rw[xu (by rw[h.1];omega)];exact d,by rw[xu (by rw[h.1];omega)];exact f,g⟩
 have i:j=ts.length:=(by simp at a;omega);subst i;have k:(ts++[t])[ts.length]=t:=(by simp);rw[k];refine⟨cv,dv,?_,?_,?_,?_,ht⟩ <;> rw[ya (by rw[h.1];omega),h.1] <;> simp
def iq(W:World)(v:Value)(ts:List T):Prop:=∃p cap xs,v=.slice p ts.length cap/\ts.length<=cap/\cap<=maxLen/\(0<ts.length->∃b off,p=some ⟨b,off,none⟩/\b<W.heap.size/\∀j u,xs[j]?=some u->W.cell? ⟨b,off+j,none⟩=some u)/\ju W xs ts
theorem iq.later{W W':World}{v:Value}{ts:List T}(h:iq W v ts)(hb:Below W.heap.size W W'):iq W' v ts:=by
 obtain⟨p,a,xs,e,f,g,i,k⟩:=h;refine⟨p,a,xs,e,f,g,fun l=>?_,k.kp (.below hb)⟩;obtain⟨b,c,m,d,n⟩:=i l;exact⟨b,c,m,z9 d hb.size,fun j u o=>(ze (w:=W) (hb.block b d)).trans (n j u o)⟩
theorem iq.slice{W:World}{v:Value}{ts:List T}(h:iq W v ts):∃p a,v=.slice p ts.length a/\ts.length<=a/\a<=maxLen:=by
 obtain⟨p,a,xs,b,c,d,e,f⟩:=h;exact⟨p,a,b,c,d⟩
theorem iq.nil(W:World):iq W (.slice none 0 0) []:=⟨none,0,[],rfl,zo _,zj _,fun h=>absurd h (vu _),ju.nil W⟩
theorem iq.tab{W:World}{p:Option Addr}{n cap:Nat}{ts:List T}(h:iq W (.slice p n cap) ts){i:Nat}(hi:i<ts.length):∃b a cv dv,p=some ⟨b,a,none⟩/\b<W.heap.size/\W.cell? ⟨b,a+i*4,none⟩=some (.string ts[i].nm)/\W.cell? ⟨b,a+i*4+1,none⟩=some cv/\W.cell? ⟨b,a+i*4+2,none⟩=some (.string ts[i].key)/\W.cell? ⟨b,a+i*4+3,none⟩=some dv/\dw W cv dv ts[i]:=by
 obtain⟨l,d,xs,e,m,o,f,g⟩:=h;obtain⟨rfl,rfl,rfl⟩:=Value.slice.inj e;obtain⟨b,a,j,k,c⟩:=f (by omega);obtain⟨cv,dv,c0,c1,c2,c3,c4⟩:=g.2 i hi;exact⟨b,a,cv,dv,j,k,c _ _ c0,by rw[Nat.add_assoc];exact c _ _ c1,by rw[Nat.add_assoc];exact c _ _ c2,by rw[Nat.add_assoc];exact c _ _ c3,c4⟩
def ot:T:=⟨e0,[],e0,[]⟩
def nu(o:Option T):T:=o.getD ot
theorem rN(W:World):dw W (.slice none 0 0) (.slice none 0 0) ot:=
 ⟨⟨rfl,none,0,rfl,zo _,zj _,fun a h=>(by cases h),fun h=>absurd h (vu _)⟩,[],rfl,⟨rfl,none,0,rfl,zo _,zj _,fun a h=>(by cases h),fun h=>absurd h (vu _)⟩,fun j h=>absurd h (yh j)⟩
theorem dw.c{W:World}{cv dv:Value}{t:T}(h:dw W cv dv t):fj W cv t.cols:=h.1
theorem dw.d{W:World}{cv dv:Value}{t:T}(h:dw W cv dv t):px W dv t.deps:=h.2
theorem xR:(prog.info? 107).map (fun i=>(i.zero,i.size,i.bytes))=some (some (.agg #[.string e0,.int .i64 0,.bool false,.string e0]),4,48):=by kernel_rfl
theorem BH:(prog.info? 9).map (fun i=>(i.zero,i.size,i.bytes))=some (some (.string e0),1,16):=by kernel_rfl
theorem lX(l:List C):∀u∈be l,u.oneCell'=true:=by
 intro u a;unfold be at a;rw[List.mem_flatMap]at a;obtain⟨c,_,b⟩:=a;simp only[xy,vk,or_false]at b;rcases b with rfl|rfl|rfl|rfl <;> rfl
theorem lY(l:List ByteArray):∀u∈cellsS l,u.oneCell'=true:=by
 intro u a;obtain⟨c,_,rfl⟩:=List.mem_map.1 a;rfl
theorem lZ{l:List C}{v:Value}{W:World}(h:fj W v l)(hl:l.length<=1000):Calls prog 110 #[v] W fun e w'=>∃s,e=.returned s/\ac w' W.heap.size 107 4 s l.length (be l)/\Below W.heap.size W w':=by
 obtain⟨J,L,x,y,z⟩:=info_parts xR;have M:∀(w:World) (a:Option Addr) (n c B E:Nat),(binOp .eql 57 (.slice a n c) (.slice none B E)).run prog w=.ok (.bool a.isNone) w:=(fun w a n c B E=>Lib.run_eql_slice_nil w _ _ a n c B E underlying57);obtain⟨p,F,rfl,N,O⟩:=h.slice;rcases jn.spot h with rfl|⟨b,o,rfl⟩
 ·have g:l.length=0:=by
   rcases Nat.eq_zero_or_pos l.length with g|g
   ·exact g
   obtain⟨_,_,e,_⟩:=jn.at h g;cases e
  have G:l=[]:=wg g;subst G;go_enter func110,ntmps110;go_wp2_with fail;go_ret;exact⟨_,rfl,ac.nil,zg _ _⟩
 have d:∀j u,(be l)[j]?=some u->W.cell? ⟨b,o+j,none⟩=some u:=fun j u q=>by
  have t:0<l.length:=by
   rcases Nat.eq_zero_or_pos l.length with g|g
   ·rw[wg g]at q;simp[be]at q
   exact g
  obtain⟨R,H,e,_,P⟩:=jn.at h t;cases e;exact P j u q
 have f:=gF l;have i:=lX l;obtain⟨n,t⟩:=ae l.length;rw[t]at f hl ⊢;generalize be l=news at d f i ⊢;have A:=aa d;clear d h N t;unfold maxLen at O;go_enter func110,ntmps110;go_wp2_with (at_builtin;refine wpList_append_own _ rfl _ _ 57 rfl W.heap.size 107 J _ 4 48 underlying57 L x y z rfl (by decide) _ _ _ rfl (World.ownsRow_made W #[] 0 (zo _) (zj _) (by simp)) ⟨b,o,none⟩ n F news rfl ?qc1 ?qc2 ?qc3 ?qc4 ?qc5 ?qc6 ?_)
 case qc1=>exact f
 case qc2 =>
  intro j u q;rw[Addr.add_lit];exact Lib.cell?_alloc_some _ (A.out j u q)
 case qc3=>exact i
 case qc4=>rw[xj];unfold maxLen;omega
 case qc5=>rw[xj];omega
 case qc6=>simp
 intro s S r m I
 go_wp2
 go_ret;refine⟨s,rfl,ac.lh (by simpa using r),?_⟩;exact((zg _ W).alloc (zo _) _).grown m (by simp) (by intro k Q;simp[Value.ownBlock]at Q;omega)
theorem gG(l:List ByteArray):(cellsS l).length=l.length*1:=by simp[cellsS]
theorem mA{l:List ByteArray}{v:Value}{W:World}(h:kh W v l)(hl:l.length<=1000):Calls prog 111 #[v] W fun e w'=>∃s,e=.returned s/\ac w' W.heap.size 9 1 s l.length (cellsS l)/\Below W.heap.size W w':=by
 obtain⟨J,L,x,y,z⟩:=info_parts BH;have M:∀(w:World) (a:Option Addr) (n c B E:Nat),(binOp .eql 42 (.slice a n c) (.slice none B E)).run prog w=.ok (.bool a.isNone) w:=(fun w a n c B E=>Lib.run_eql_slice_nil w _ _ a n c B E underlying42);obtain⟨p,F,rfl,N,O⟩:=h.slice;rcases jn.spot h with rfl|⟨b,o,rfl⟩
 ·have g:l.length=0:=by
   rcases Nat.eq_zero_or_pos l.length with g|g
   ·exact g
   obtain⟨_,_,e,_⟩:=jn.at h g;cases e
  have G:l=[]:=wg g;subst G;go_enter func111,ntmps111;go_wp2_with fail;go_ret;exact⟨_,rfl,ac.nil,zg _ _⟩
 have d:∀j u,(cellsS l)[j]?=some u->W.cell? ⟨b,o+j,none⟩=some u:=fun j u q=>by
  have t:0<l.length:=by
   rcases Nat.eq_zero_or_pos l.length with g|g
   ·rw[wg g]at q;simp[cellsS]at q
   exact g
  obtain⟨R,H,e,_,P⟩:=jn.at h t;cases e;exact P j u q
 have f:=gG l;have i:=lY l;obtain⟨n,t⟩:=ae l.length;rw[t]at f hl ⊢;generalize cellsS l=news at d f i ⊢;have A:=aa d;clear d h N t;unfold maxLen at O;go_enter func111,ntmps111;go_wp2_with (at_builtin;refine wpList_append_own _ rfl _ _ 42 rfl W.heap.size 9 J _ 1 16 underlying42 L x y z rfl (by decide) _ _ _ rfl (World.ownsRow_made W #[] 0 (zo _) (zj _) (by simp)) ⟨b,o,none⟩ n F news rfl ?qc1 ?qc2 ?qc3 ?qc4 ?qc5 ?qc6 ?_)
 case qc1=>exact f
 case qc2 =>
  intro j u q;rw[Addr.add_lit];exact Lib.cell?_alloc_some _ (A.out j u q)
 case qc3=>exact i
 case qc4=>rw[xj];unfold maxLen;omega
 case qc5=>rw[xj];omega
 case qc6=>simp
 intro s S r m I
 go_wp2
 go_ret;refine⟨s,rfl,ac.lh (by simpa using r),?_⟩;exact((zg _ W).alloc (zo _) _).grown m (by simp) (by intro k Q;simp[Value.ownBlock]at Q;omega)
theorem IB:(prog.info? 155).map (fun i=>(i.zero,i.size,i.bytes))=some (some (.agg #[.slice none 0 0,.string e0]),2,40):=by kernel_rfl
theorem lj{t ty e:TypeId}{z:Value}{size bytes:Nat}(ht:prog.underlying t=some (.slice e))(hinf:(prog.info? e).map (fun i=>(i.zero,i.size,i.bytes))=some (some z,size,bytes))(hzs:z.cells.size=size)(hsz:0<size)(hby:bytes<=80)(y:World)(base:Nat){v:Value}{m:Nat}{xs:List Value}(hr:ac y base e size v m xs)(hm:m+1<=1000000)(hb:base<=y.heap.size)(cs:Array Value)(hcs:cs.size=size)(h1:∀u∈cs.toList,u.oneCell'=true):∃g a w',(Builtin.append_ #[t,t] ty #[v,.slice (some ⟨y.heap.size,0,none⟩) 1 1]).run prog (y.alloc (.cells cs e))=.ok (.slice (some ⟨g,0,none⟩) (m+1) a) w'/\ac w' base e size (.slice (some ⟨g,0,none⟩) (m+1) a) (m+1) (xs++cs.toList)/\y.grownBy w' v.ownBlock/\(v.ownBlock=some g∨y.heap.size<=g):=by
 obtain⟨o,d,f,j,k⟩:=info_parts hinf;have p:=z7 y (.cells cs e)
 have b:(m+1)*bytes<=140737488355328:=by
  have:(m+1)*bytes<=1000000*80:=Nat.mul_le_mul hm hby
  omega
 obtain⟨g,a,w',l,r,c,s⟩:=aS (P:=prog) (y.alloc (.cells cs e)) base t ty e o z size bytes ht d f j k hzs hsz (hr.later (aD y _)) ⟨y.heap.size,0,none⟩ 1 1 cs.toList (by simpa using hcs)
  (by exact World.news_of_block p) h1 (by decide) (by unfold maxLen;omega) b (by rw[zm];omega)
 exact⟨g,a,w',l,r,⟨c.os,c.tape,c.output,zx (by simp) c.size,fun q w n=>(c.block q (by simp;omega) n).trans ((aD y _).block q w)⟩,s.imp id (fun h=>by rw[zm]at h;omega)⟩
structure fw (w:World) (base:Nat) (cv dv:Value) (t:T) (ps:List Value):Prop where
 c:ac w base 107 4 cv t.cols.length (be t.cols)
 n:ps.length=t.deps.length
 d:ac w base 155 2 dv t.deps.length (cellsD ps t.deps)
 l:∀j (h:j<ps.length) (h':j<t.deps.length),ac w base 9 1 ps[j] t.deps[j].left.length (cellsS t.deps[j].left)
theorem fw.rd{w:World}{base:Nat}{cv dv:Value}{t:T}{ps:List Value}(h:fw w base cv dv t ps):dw w cv dv t:=
 ⟨ac.Bu h.c (by decide) (by decide),ps,h.n,ac.Bu h.d (by decide) (by decide),fun j a b=>ac.Bu (h.l j a b) (by decide) (by decide)⟩
theorem fw.later{w w':World}{base:Nat}{cv dv:Value}{t:T}{ps:List Value}(h:fw w base cv dv t ps)(hb:Below w.heap.size w w'):fw w' base cv dv t ps:=
 ⟨h.c.later hb,h.n,h.d.later hb,fun j a b=>(h.l j a b).later hb⟩
def Few(t:T):Prop:=t.cols.length<=1000/\t.deps.length<=1000/\∀d∈t.deps,d.left.length<=1000
theorem aG(W:World):Below W.heap.size W W.drew:=aF W 1
theorem ac.beside{w w':World}{base base':Nat}{e e':TypeId}{s s':Nat}{v v':Value}{n n':Nat}{xs xs':List Value}(h:ac w base e s v n xs)(hr:ac w base' e' s' v' n' xs')(hne:e≠e')(hg:w.grownBy w' v'.ownBlock):ac w' base e s v n xs:=
 h.of (fun k a=>hg.block k (h.lt k a).2 (fun c=>by
  obtain⟨_,c1,d⟩:=h.block k a;obtain⟨_,c2,b⟩:=hr.block k c.symm;rw[d]at b;cases b;exact hne rfl))
structure jp (S:Nat) (W:World) (t:T) (cv dv:Value) (w:World):Prop where
 box:w.heap[S]?=some (ar t.nm cv t.key dv)
 res:w.heap[S+1]?=some (ar e0 (.slice none 0 0) e0 (.slice none 0 0))
 c:ac w (S+2) 107 4 cv t.cols.length (be t.cols)
 below:Below S W w
section
variable{S:Nat}{W w w':World}{t:T}{cv dv:Value}
theorem jp.sz(h:jp S W t cv dv w):S+2<=w.heap.size:=aB h.res
theorem jp.on(h:jp S W t cv dv w)(hb:Below w.heap.size w w'):jp S W t cv dv w':=
 ⟨aE hb h.box,aE hb h.res,h.c.later hb,h.below.trans (hb.mono (by have:=h.sz;omega))⟩
theorem jp.grown(h:jp S W t cv dv w){v:Value}{n:Nat}{xs:List Value}(hr:ac w (S+2) 155 2 v n xs)(hg:w.grownBy w' v.ownBlock):jp S W t cv dv w':=by
 have a:=fO (n:=S+2) hr hg (zo _) h.sz;exact⟨(a.block S (by omega)).trans h.box,(a.block (S+1) (by omega)).trans h.res,h.c.beside hr (by decide) hg,h.below.trans (a.mono (by omega))⟩
theorem jp.cells(h:jp S W t cv dv w):S<w.heap.size/\w.cell? ⟨S,0,none⟩=some (.string t.nm)/\w.cell? ⟨S,1,none⟩=some cv/\w.cell? ⟨S,2,none⟩=some (.string t.key)/\w.cell? ⟨S,3,none⟩=some dv:=
 ⟨aB h.box,aA h.box 0,aA h.box 1,aA h.box 2,aA h.box 3⟩
end
structure jx (w:World) (base:Nat) (v:Value) (ds:List D) (ps:List Value):Prop where
 n:ps.length=ds.length
 d:ac w base 155 2 v ds.length (cellsD ps ds)
 l:∀j (h:j<ps.length) (h':j<ds.length),ac w base 9 1 ps[j] ds[j].left.length (cellsS ds[j].left)
theorem jx.later{w w':World}{base:Nat}{v:Value}{ds:List D}{ps:List Value}(h:jx w base v ds ps)(hb:Below w.heap.size w w'):jx w' base v ds ps:=⟨h.n,h.d.later hb,fun j a b=>(h.l j a b).later hb⟩
theorem jx.snoc{y w':World}{base:Nat}{v v' lv:Value}{ds:List D}{ps:List Value}{d:D}(h:jx y base v ds ps)(hl:ac y base 9 1 lv d.left.length (cellsS d.left))(hr:ac w' base 155 2 v' (ds.length+1) (cellsD ps ds++[lv,.string d.right]))(hg:y.grownBy w' v.ownBlock):jx w' base v' (ds++[d]) (ps++[lv]):=by
 refine⟨by simp[h.n],?_,fun j a b=>?_⟩
 ·rw[gC _ _ _ _ h.n,y6];exact hr
 by_cases e:j<ps.length
 ·have c:j<ds.length:=(by rw[<-h.n];exact e);simp only[yx e,yx c];exact(h.l j e c).beside h.d (by decide) hg
 have f:j=ps.length:=(by simp at a;omega);have g:j=ds.length:=(by rw[<-h.n];exact f);have i:(ps++[lv])[j]=lv:=(by subst f;simp);have k:(ds++[d])[j]=d:=(by subst g;simp);rw[i,k];exact hl.beside h.d (by decide) hg
theorem jx.nil(w:World)(base:Nat):jx w base (.slice none 0 0) [] []:=⟨rfl,ac.nil,fun j h=>absurd h (yh j)⟩
theorem jY{S:Nat}{W w1 y:World}{t:T}{cv dv v lv:Value}{ds:List D}{ps:List Value}{d:D}(hI:jp S W t cv dv w1)(hD:jx w1 (S+2) v ds ps)(hb:Below w1.heap.size w1 y)(hl:ac y w1.heap.size 9 1 lv d.left.length (cellsS d.left))(hn:ds.length<=1000):∃g a e,(Builtin.append_ #[58,58] 58 #[v,.slice (some ⟨y.heap.size,0,none⟩) 1 1]).run prog (y.alloc (.cells #[lv,.string d.right] 155))=.ok (.slice (some ⟨g,0,none⟩) (ds.length+1) a) e/\jp S W t cv dv e/\jx e (S+2) (.slice (some ⟨g,0,none⟩) (ds.length+1) a) (ds++[d]) (ps++[lv]):=by
 have f:=hI.on hb;have b:=hD.later hb;obtain⟨p,c,h,_,_⟩:=hl.isslice
 obtain⟨g,a,e,k,l,i,m⟩:=lj (ty:=58) underlying58 IB (by kernel_rfl) (by decide) (by decide) y (S+2) b.d (by omega) f.sz #[lv,.string d.right] rfl (by
  intro u j;simp only[xy,vk,or_false]at j;rcases j with rfl|rfl
  ·rw[h];rfl
  rfl)
 exact⟨g,a,e,k,f.grown b.d i,b.snoc (hl.mono hI.sz) l i⟩
theorem fw.of{w w':World}{base:Nat}{cv dv:Value}{t:T}{ps:List Value}(h:fw w base cv dv t ps)(hk:∀q:Nat,base<=q->w'.heap[q]?=w.heap[q]?):fw w' base cv dv t ps:=
 ⟨h.c.of (fun k e=>hk k (h.c.lt k e).1),h.n,h.d.of (fun k e=>hk k (h.d.lt k e).1),fun j a b=>(h.l j a b).of (fun k e=>hk k ((h.l j a b).lt k e).1)⟩
theorem cA(x:World)(b q:Nat)(h:q≠b)(a c d e:Value):((((x.setCell ⟨b,0,none⟩ a).setCell ⟨b,1,none⟩ c).setCell ⟨b,2,none⟩ d).setCell ⟨b,3,none⟩ e).heap[q]?=x.heap[q]?:=by
 have f:∀(y:World) (i:Nat) (u:Value),(y.setCell ⟨b,i,none⟩ u).heap[q]?=y.heap[q]?:=(fun y i u=>y9 y ⟨b,i,none⟩ q u h);rw[f,f,f,f]
theorem mB{t:T}{cv dv:Value}{W:World}(h:dw W cv dv t)(hf:Few t):Calls prog 80 #[.agg #[.string t.nm,cv,.string t.key,dv]] W fun e w'=>∃p1 c1 p2 c2 ps,e=.returned (.agg #[.string t.nm,.slice p1 t.cols.length c1,.string t.key,.slice p2 t.deps.length c2])/\fw w' (W.heap.size+2) (.slice p1 t.cols.length c1) (.slice p2 t.deps.length c2) t ps/\Below W.heap.size W w':=by
 obtain⟨pc,cc,a3,c4,c5⟩:=h.1.slice;obtain⟨p,Q,a4,b2,b3⟩:=h.2.slice;obtain⟨n,hn⟩:=ae t.cols.length;obtain⟨nd,a5⟩:=ae t.deps.length;obtain⟨S,hS⟩:=ae W.heap.size;have R:=aD W (ar t.nm cv t.key dv);have r:=R.alloc R.size (ar e0 (.slice none 0 0) e0 (.slice none 0 0));have U:=cR (u:=ar e0 (.slice none 0 0) e0 (.slice none 0 0)) (z7 W (ar t.nm cv t.key dv));have k1:=z7 (W.alloc (ar t.nm cv t.key dv)) (ar e0 (.slice none 0 0) e0 (.slice none 0 0));rw[hS]at U;rw[zm,hS]at k1;have A:=lZ (h.1.later r) hf.1;have B:((W.alloc (ar t.nm cv t.key dv)).alloc (ar e0 (.slice none 0 0) e0 (.slice none 0 0))).heap.size=S+2:=(by rw[zm,zm,hS]);obtain⟨w0,V⟩:=ae ((W.alloc (ar t.nm cv t.key dv)).alloc (ar e0 (.slice none 0 0) e0 (.slice none 0 0)));rw[V]at U k1 r A B;rw[B,hn]at A;rw[hS]at r;rw[a5]at a4 b2;rw[hn]at a3;unfold maxLen at b3;have HW:=aa V;have HS:=aa hS;have HB:=aa (ab U (ab k1 (ab r B)));have X:=aa (ab hn a5);have HR:=aa (ab h.2 hf.2);have z1:=aA U 1;have zf:=zq w0 S 1 _ _ U;have zl:=aB U;subst a3 a4;clear h hf V hS U k1 R r B;go_enter func80,ntmps80;go_upto_region 1 with fail;rw[HW.out,HS.out];go_upto_region 2 with (go_at_call 110;(with_reducible refine A.mono ?_);rintro e M⟨v',rfl,hr,hb⟩;obtain⟨pv,o,rfl,_,_⟩:=ac.isslice hr;have x:=(hb.block S (by omega)).trans HB.1;have z1:=aA x 1;have zf:=zq M S 1 _ _ x;have zl:=aB x;have H1:=aa (ab hr (ab hb x));clear hr hb x)
 have hI:jp S W t (.slice pv n o) (.slice p nd Q) (M.setCell ⟨S,1,none⟩ (.slice pv n o)):=by
  have a6:∀(q:Nat),q≠S->(M.setCell ⟨S,1,none⟩ (.slice pv n o)).heap[q]?=M.heap[q]?:=(fun q h=>y9 M ⟨S,1,none⟩ q _ h);refine⟨y7 _ S 1 _ _ _ H1.2.2,(a6 _ (by omega)).trans ((H1.2.1.block (S+1) (by omega)).trans HB.2.1),?_,?_⟩
  ·rw[X.1];exact H1.1.of (fun k hk=>a6 k (by have:=(H1.1.lt k hk).1;omega))
  exact(HB.2.2.1.trans (H1.2.1.mono (by omega))).setCell (p:=⟨S,1,none⟩) (zo _) _
 obtain⟨y2,a7⟩:=ae (M.setCell ⟨S,1,none⟩ (.slice pv n o));rw[a7]at hI ⊢;clear a7 H1 A;have c3:=hI.cells.2.2.2.2;have HI:=aa hI;clear hI;have Y:∀a w,(callFunc 111 a).run prog w=.ok (.enter 111 a) w:=(by intro a w;rfl);go_wp2_with fail;clear c3;go_loopg [3,13] (nd+1) (fun gh v jv w=>∃(j:Nat) (ps:List Value),jv=.int .i64 (j:Int)/\j<=nd/\nd+1<=j+gh/\jp S W t (.slice pv n o) (.slice p nd Q) w/\jx w (S+2) v (t.deps.take j) ps)
 case atStart=>exact⟨0,[],rfl,zj _,by omega,HI.out,jx.nil _ _⟩
 obtain⟨j,ps,rfl,hj,hg,Z,hD⟩:=hrel;have s:(t.deps.take j).length=j:=(by rw[xq,X.2];omega);have b4:=HR.2.1;rw[X.2]at b4;obtain⟨pd,cd,hv,_,_⟩:=ac.isslice hD.d;rw[s]at hv;subst hv;by_cases b5:j<nd
 ·have a8:j<t.deps.length:=(by rw[X.2];exact b5);have N:px wr (.slice p nd Q) t.deps:=HR.1.later (Z.below.mono (xn HS.out));obtain⟨b,c6,lv,rfl,hb,c0,c1,E⟩:=px.dep N a8;obtain⟨d,F⟩:=ae (t.deps[j]);have y:t.deps.take (j+1)=t.deps.take j++[d]:=(by rw[yi a8,F]);have a9:d.left.length<=1000:=HR.2.2 d (by rw[<-F];exact z8 _);rw[F]at c1 E;obtain⟨pl,cl,rfl,_,_⟩:=E.slice;have O:=z7 wr (.cells #[.slice pl d.left.length cl,.string d.right] 155);have G:=aD wr (.cells #[.slice pl d.left.length cl,.string d.right] 155);have H:=mA ((E.later G).later (aG _)) a9;have I:=aa (ab ((Z.on G).on (aG _)) (ab ((hD.later G).later (aG _)) (ab (aE (aG _) O) y)));have HL:=aa s;clear F N E a9 Z hD O G s y;go_upto_region 6 with fail;obtain⟨nl,a0⟩:=ae d.left.length;obtain⟨w1,J⟩:=ae (wr.alloc (.cells #[.slice pl d.left.length cl,.string d.right] 155));obtain⟨S1,a1⟩:=ae wr.heap.size;rw[J,a1]at I;rw[J]at H;rw[J,a1];clear J a1 c0 c1 hb;rw[a0]at H I ⊢;have b6:=aa a0;clear a0;have x0:=aA I.2.2.1 0;have x1:=aA I.2.2.1 1;have xl:=aB I.2.2.1
  go_region_law (first|(refine bM Y [.slice pl nl cl] (by simp[Act.eval]) ?_;(with_reducible refine Calls.mono H ?_);rintro e y2⟨c7,rfl,a2,r⟩;obtain⟨c8,c9,rfl,_,_⟩:=ac.isslice a2;have q2:=aE r I.2.2.1;have q0:=aA q2 1;have ql:=aB q2;obtain⟨g,b9,w3,P,I3,D3⟩:=jY (d:=d) I.1 I.2.1 r (by rw[b6.out];exact a2) (by rw[HL.out];omega);rw[HL.out]at P D3;have H3:=aa (ab I3 D3);clear I3 D3 a2 r q2 H;refine⟨_,rfl,?_⟩)|refine bE rfl (.tmp 17) (.tmp 24) 58 rfl rfl rfl P ?_)
  all_goals
   go_wp2_with fail;go_roundg (nd-j)
   case measure=>omega
   case rel=>exact⟨j+1,_,by go_num,by omega,by omega,H3.1,by rw[I.2.2.2];exact H3.2⟩
 obtain rfl:j=nd:=(by omega);have y:t.deps.take j=t.deps:=yu (by rw[X.2];exact zo _);rw[y]at hD;have f:=Z.box;have m:=Z.res;have z0:=aA f 0;have z1:=aA f 1;have z2:=aA f 2;have z3:=aA f 3;have zf:=(fun i=>zq wr S i _ _ f);have zl:=aB f;have r0:=aA m 0;have r1:=aA m 1;have r2:=aA m 2;have r3:=aA m 3;have rf:=(fun i=>zq wr (S+1) i _ _ m);have rl:=aB m;have HK:=aa (ab Z hD);clear Z hD f m y s;go_wp2_with fail;obtain⟨wa,L⟩:=ae (wr.setCell ⟨S,3,none⟩ (.slice pd j cd));have ha:∀q:Nat,q≠S->wa.heap[q]?=wr.heap[q]?:=(fun q h=>by rw[<-L];exact y9 wr ⟨S,3,none⟩ q _ h);have b7:Below S W wa:=(by rw[<-L];exact HK.1.below.setCell (p:=⟨S,3,none⟩) (zo _) _);have b8:=(ha (S+1) (by omega)).trans HK.1.res;rw[L];clear L;have z:=mn b8 (.string t.nm) (.slice pv n o) (.string t.key) (.slice pd j cd);have b0:=bB b7 (show S<=S+1 by omega) (.string t.nm) (.slice pv n o) (.string t.key) (.slice pd j cd);have hO:=cA wa (S+1);have ho:∀q:Nat,S+2<=q->((((wa.setCell ⟨S+1,0,none⟩ (.string t.nm)).setCell ⟨S+1,1,none⟩ (.slice pv n o)).setCell ⟨S+1,2,none⟩ (.string t.key)).setCell ⟨S+1,3,none⟩ (.slice pd j cd)).heap[q]?=wr.heap[q]?:=(fun q h=>(hO q (by omega) _ _ _ _).trans (ha q (by omega)));generalize (((wa.setCell _ _).setCell _ _).setCell _ _).setCell _ _=wz at z b0 ho ⊢;have y0:=aA z 0;have M:=aA z 1;have y2:=aA z 2;have y3:=aA z 3;refine y8 (v:=.agg #[.string t.nm,(.slice pv n o),.string t.key,(.slice pd j cd)]) (by simp[results,results80,go_sem,y0,M,y2,y3]) rfl ?_;rw[X.1,X.2,HS.out];have b1:fw wr (S+2) (.slice pv n o) (.slice pd j cd) t ps:=⟨HK.1.c,HK.2.n,HK.2.d,HK.2.l⟩;exact⟨_,_,_,_,ps,rfl,b1.of ho,b0⟩
def bq(key:ByteArray)(l:List C)(j:Nat):List C:=(l.take j).map (lu key)++l.drop j
theorem bU(key:ByteArray)(l:List C)(j:Nat):(bq key l j).length=l.length:=by
 unfold bq;simp;omega
theorem dC(key:ByteArray)(l:List C)(j:Nat)(hj:j<=l.length)(i:Nat):(bq key l j)[i]?=(l[i]?).map (fun c=>if i<j then lu key c else c):=by
 unfold bq;by_cases h:i<j
 ·rw[xu (by simp;omega),xe,List.getElem?_take,zw h];simp[h]
 rw[ya (by simp;omega),List.getElem?_drop];simp only[yd,xq,Nat.min_eq_left hj,h,if_false];rw[show j+(i-j)=i by omega]
 simp
theorem mC(key:ByteArray)(l:List C):bq key l 0=l:=by simp[bq]
theorem oE(key:ByteArray)(l:List C):bq key l l.length=l.map (lu key):=by simp[bq]
theorem zL{key:ByteArray}{c:C}(h:ip c.nm key=false):lu key c=c:=by unfold lu;rw[h];simp
theorem zM{key:ByteArray}{c:C}(h:ip c.nm key=true):lu key c={ c with mu:=true }:=by unfold lu;rw[h];simp
theorem mD{key:ByteArray}{l:List C}{j:Nat}(hj:j<l.length)(h:ip l[j].nm key=false):bq key l (j+1)=bq key l j:=by
 apply IQ;intro i;rw[dC _ _ _ (by omega),dC _ _ _ (by omega)];by_cases e:i=j
 ·subst e;rw[z6 hj];simp[zL h]
 congr 1
 funext c
 by_cases a:i<j
 ·rw[zw a,zw (by omega)]
 rw[zu a,zu (by omega)]
theorem mE{key:ByteArray}{l:List C}{j:Nat}(hj:j<l.length)(h:ip l[j].nm key=true):bq key l (j+1)=(bq key l j).set j { l[j]with mu:=true }:=by
 apply IQ;intro i;rw[dC _ _ _ (by omega),List.getElem?_set,dC _ _ _ (by omega)];by_cases e:j=i
 ·subst e;rw[zw rfl,zw (by rw[bU];exact hj),z6 hj];simp[zM h]
 rw[zu e]
 congr 1
 funext c
 by_cases a:i<j
 ·rw[zw a,zw (by omega)]
 rw[zu a,zu (by omega)]
theorem jZ(l:List C)(j:Nat)(hj:j<l.length):(be l).set (j*4+2) (.bool true)=be (l.set j { l[j]with mu:=true }):=by
 induction l generalizing j with
 | nil=>simp at hj
 | cons c r ih =>
  cases j with
  | zero=>simp[bK]
  | succ j =>
   have:=ih j (by simpa using hj)
   rw[bK,show(j+1)*4+2=j*4+2+1+1+1+1 by omega];simp only[ed,List.getElem_cons_succ,bK,this]
structure jw (S:Nat) (W:World) (base:Nat) (t:T) (cv dv:Value) (ps:List Value) (j:Nat) (w:World):Prop where
 box:w.heap[S]?=some (ar t.nm cv t.key dv)
 res:w.heap[S+1]?=some (ar e0 (.slice none 0 0) e0 (.slice none 0 0))
 own:fw w base cv dv { t with cols:=bq t.key t.cols j } ps
 chg:Chg (fun b=>cv.ownBlock=some b) W w
 lt:∀b,cv.ownBlock=some b->b<S
section
variable{S base:Nat}{W w:World}{t:T}{cv dv:Value}{ps:List Value}{j:Nat}
theorem jw.cells(h:jw S W base t cv dv ps j w):S<w.heap.size/\w.cell? ⟨S,1,none⟩=some cv/\w.cell? ⟨S,2,none⟩=some (.string t.key):=
 ⟨aB h.box,aA h.box 1,aA h.box 2⟩
theorem jw.drew(h:jw S W base t cv dv ps j w):jw S W base t cv dv ps j w.drew:=
 ⟨h.box,h.res,h.own.later (aG w),h.chg.drew,h.lt⟩
theorem jw.skip(h:jw S W base t cv dv ps j w)(hj:j<t.cols.length)(he:ip t.cols[j].nm t.key=false):jw S W base t cv dv ps (j+1) w:=
 ⟨h.box,h.res,by rw[mD hj he];exact h.own,h.chg,h.lt⟩
theorem fw.cset{w:World}{g cap n:Nat}(h:fw w base (.slice (some ⟨g,0,none⟩) n cap) dv t ps)(hn:t.cols.length=n)(hj:j<t.cols.length):fw (w.setCell ⟨g,j*4+2,none⟩ (.bool true)) base (.slice (some ⟨g,0,none⟩) n cap) dv { t with cols:=t.cols.set j { t.cols[j]with mu:=true } } ps:=by
 have e:=h.c;rw[hn]at e;obtain⟨f,i⟩:=ac.stored e (j*4+2) (.bool true);rw[jZ _ _ hj]at f;refine⟨?_,h.n,h.d.beside e (by decide) i,fun a b c=>(h.l a b c).beside e (by decide) i⟩;show ac _ base 107 4 _ (t.cols.set j _).length (be (t.cols.set j _));rw[vp,hn];exact f
theorem jw.take{g cap n:Nat}(h:jw S W base t (.slice (some ⟨g,0,none⟩) n cap) dv ps j w)(hn:t.cols.length=n)(hj:j<t.cols.length)(he:ip t.cols[j].nm t.key=true):jw S W base t (.slice (some ⟨g,0,none⟩) n cap) dv ps (j+1) (w.setCell ⟨g,j*4+2,none⟩ (.bool true)):=by
 have d:=h.lt g rfl;have a:j<(bq t.key t.cols j).length:=by rw[bU];exact hj
 have c:(bq t.key t.cols j)[j]=t.cols[j]:=by
  have:=dC t.key t.cols j (by omega) j
  rw[z6 a,z6 hj]at this;simpa using this
 have b:=h.own.cset (j:=j) (by show(bq t.key t.cols j).length=n;rw[bU];exact hn) a;have b:fw (w.setCell ⟨g,j*4+2,none⟩ (.bool true)) base (.slice (some ⟨g,0,none⟩) n cap) dv { t with cols:=(bq t.key t.cols j).set j { (bq t.key t.cols j)[j]with mu:=true } } ps:=b;rw[c,<-mE hj he]at b;exact⟨(y9 w ⟨g,_,none⟩ S _ (by show S≠g;omega)).trans h.box,(y9 w ⟨g,_,none⟩ (S+1) _ (by show S+1≠g;omega)).trans h.res,b,h.chg.setCell (p:=⟨g,j*4+2,none⟩) (fun _=>rfl) _,h.lt⟩
theorem jw.col{g cap n:Nat}(h:jw S W base t (.slice (some ⟨g,0,none⟩) n cap) dv ps j w)(hn:t.cols.length=n)(hj:j<t.cols.length):g<w.heap.size/\w.cell? ⟨g,j*4,none⟩=some (.string t.cols[j].nm)/\(∃b,w.cell? ⟨g,j*4+2,none⟩=some (.bool b))/\w.frozen? ⟨g,j*4+2,none⟩=false:=by
 have a:=h.own.c;have f:(bq t.key t.cols j).length=n:=(by rw[bU];exact hn);have d:j<(bq t.key t.cols j).length:=by rw[bU];exact hj
 have e:(bq t.key t.cols j)[j]=t.cols[j]:=by
  have:=dC t.key t.cols j (by omega) j
  rw[z6 d,z6 hj]at this;simpa using this
 have a:ac w base 107 4 (.slice (some ⟨g,0,none⟩) n cap) (bq t.key t.cols j).length (be (bq t.key t.cols j)):=a;obtain⟨c0,_,c2,_⟩:=jG (bq t.key t.cols j) j d;rw[f]at a;rw[e]at c0;exact⟨(a.lt g rfl).2,a.cell c0,⟨_,a.cell c2⟩,a.frozenAt _⟩
end
theorem fj.lit{w:World}{b:Nat}{l:List C}(h:w.heap[b]?=some (.cells (be l).toArray 107))(hl:l.length<=maxLen):fj w (.slice (some ⟨b,0,none⟩) l.length l.length) l:=
 ⟨gF l,_,_,rfl,zo _,hl,fun a e=>by cases e;rfl,fun _=>⟨b,0,_,_,_,rfl,h,by decide,by decide,fun j u c=>by rw[xj,List.getElem?_toArray];exact c⟩⟩
theorem px.none(w:World):px w (.slice none 0 0) []:=(rN w).2
theorem fj.Ar{W:World}{b off n cap:Nat}{l:List C}(h:fj W (.slice (some ⟨b,off,none⟩) n cap) l){i:Nat}(hi:i<l.length):b<W.heap.size/\W.cell? ⟨b,off+i*4,none⟩=some (.string l[i].nm)/\W.cell? ⟨b,off+i*4+1,none⟩=some (.int .i64 l[i].kd)/\W.cell? ⟨b,off+i*4+2,none⟩=some (.bool l[i].mu)/\W.cell? ⟨b,off+i*4+3,none⟩=some (.string l[i].tgt):=by
 obtain⟨_,_,e,a⟩:=fj.col h hi;cases e;exact a
theorem kh.uw{W:World}{b off n cap:Nat}{l:List ByteArray}(h:kh W (.slice (some ⟨b,off,none⟩) n cap) l){i:Nat}(hi:i<l.length):b<W.heap.size/\W.cell? ⟨b,off+i,none⟩=some (.string l[i]):=by
 obtain⟨_,_,e,a⟩:=kh.word h hi;cases e;exact a
theorem vH{l:List C}{x:ByteArray}(j:Nat)(h:j<l.length)(hp:mw x l[j]=true)(hn:∀i (hi:i<j),mw x (l[i]'(by omega))=false):fx l x=(j:Int):=by
 obtain⟨_,_,a⟩:=dT (p:=mw x) l j h hp hn;unfold fx;rw[a]
theorem mF{l:List C}{x:ByteArray}(hn:∀i (hi:i<l.length),mw x l[i]=false):fx l x=-1:=by
 obtain⟨_,_,a⟩:=iH (p:=mw x) l hn;unfold fx;rw[a]
theorem bT{t:T}{cv dv:Value}{x:ByteArray}{W:World}(h:dw W cv dv t):Calls prog 97 #[.agg #[.string t.nm,cv,.string t.key,dv],.string x] W fun e w'=>e=.returned (.int .i64 (fx t.cols x))/\Below W.heap.size W w':=by
 have k:=aa (ep.new h);obtain⟨pc,L,o,M,N⟩:=h.c.slice;obtain⟨p,v,q,_,_⟩:=h.d.slice;obtain⟨n,y⟩:=ae t.cols.length;obtain⟨nd,r⟩:=ae t.deps.length;obtain⟨B,z⟩:=ae W.heap.size;unfold maxLen at N;rw[r]at q;rw[y]at o M;subst o q;have A:=aa y;rw[z]at k;have a:=aa z;clear h y r z;go_enter func97,ntmps97;go_upto_region 1 with fail;obtain⟨w0,f⟩:=ae (W.alloc (ar t.nm (.slice pc n L) t.key (.slice p nd v)));rw[a.out,f];rw[f]at k;clear f;obtain⟨I,_,S,_,_⟩:=k.out.cells;go_wp2_with fail;go_loopg [5] (n+1) (fun O P w=>∃(j:Nat),P=.int .i64 (j:Int)/\j<=n/\n+1<=j+O/\(∀i (h:i<t.cols.length),i<j->mw x t.cols[i]=false)/\w=w0)
 case atStart=>exact⟨0,rfl,zj _,by omega,fun i _ l=>by omega,rfl⟩
 obtain⟨j,rfl,U,V,s,rfl⟩:=hrel;have E:=aa s;clear s;by_cases u:j<n
 ·have F:j<t.cols.length:=(by rw[A.out];exact u);obtain⟨b,Q,rfl,X,c0,_⟩:=fj.col k.out.tab.c F;obtain⟨c,g⟩:=ae (t.cols[j]);rw[g]at c0;have J:=aa g;clear g;cases m:mw x c
  ·have G:=aa m;have H:(c.nm.toList==x.toList)=false:=(by rw[aQ];exact m);clear m;go_wp2_with fail;go_roundg (n-j)
   case measure=>omega
   refine⟨j+1,by go_num,by omega,by omega,fun i l R=>?_,rfl⟩;by_cases e:i=j
   ·subst e;rw[J.out];exact G.out
   exact E.out i l (by omega)
  have G:=aa m;have H:(c.nm.toList==x.toList)=true:=(by rw[aQ];exact m);clear m;go_wp2_with fail;go_ret;exact⟨aP (vH j (by rw[A.out];exact u) (by rw[J.out];exact G.out) (fun i l=>E.out i _ l)).symm,a.out▸k.out.below⟩
 go_wp2_with fail;go_ret;exact⟨aP (mF (fun i l=>E.out i l (by have:=A.out;omega))).symm,a.out▸k.out.below⟩
structure qz (B:Nat) (W0:World) (S0:Nat) (t:T) (cv dv v:Value) (ts:List T) (w:World):Prop where
 tb:ep B W0 S0 t cv dv w
 ts:iq w v ts
theorem qz.on{B:Nat}{W0:World}{S0:Nat}{t:T}{cv dv v:Value}{ts:List T}{w w':World}(h:qz B W0 S0 t cv dv v ts w)(hb:Below w.heap.size w w'):qz B W0 S0 t cv dv v ts w':=⟨h.tb.on hb,h.ts.later hb⟩
section
variable{S:Nat}{W w w':World}{ts ts':List T}
end
section
variable{S:Nat}{W w w':World}{ts us ts':List T}{v:Value}{xs:List Value}
end
structure ji (S:Nat) (W:World) (t:T) (cv dv:Value) (j:Nat) (w:World):Prop where
 box:w.heap[S]?=some (ar t.nm cv t.key dv)
 res:w.heap[S+1]?=some (ar e0 (.slice none 0 0) e0 (.slice none 0 0))
 c:ac w (S+2) 107 4 cv t.cols.length (be (bq t.key t.cols j))
 below:Below S W w
section
variable{S:Nat}{W w w':World}{t:T}{cv dv:Value}{j:Nat}
theorem ji.sz(h:ji S W t cv dv j w):S+2<=w.heap.size:=aB h.res
theorem ji.on(h:ji S W t cv dv j w)(hb:Below w.heap.size w w'):ji S W t cv dv j w':=
 ⟨aE hb h.box,aE hb h.res,h.c.later hb,h.below.trans (hb.mono (by have:=h.sz;omega))⟩
theorem ji.cells(h:ji S W t cv dv j w):S<w.heap.size/\w.cell? ⟨S,0,none⟩=some (.string t.nm)/\w.cell? ⟨S,1,none⟩=some cv/\w.cell? ⟨S,2,none⟩=some (.string t.key)/\w.cell? ⟨S,3,none⟩=some dv:=
 ⟨aB h.box,aA h.box 0,aA h.box 1,aA h.box 2,aA h.box 3⟩
theorem ji.skip(h:ji S W t cv dv j w)(hj:j<t.cols.length)(he:ip t.cols[j].nm t.key=false):ji S W t cv dv (j+1) w:=
 ⟨h.box,h.res,by rw[mD hj he];exact h.c,h.below⟩
theorem oG(key:ByteArray)(l:List C)(j:Nat)(hj:j<l.length)(h:j<(bq key l j).length):(bq key l j)[j]=l[j]:=by
 have:=dC key l j (by omega) j
 rw[z6 h,z6 hj]at this;simpa using this
theorem ji.take{g cap n:Nat}(h:ji S W t (.slice (some ⟨g,0,none⟩) n cap) dv j w)(hn:t.cols.length=n)(hj:j<t.cols.length)(he:ip t.cols[j].nm t.key=true):ji S W t (.slice (some ⟨g,0,none⟩) n cap) dv (j+1) (w.setCell ⟨g,j*4+2,none⟩ (.bool true)):=by
 have b:=h.c;rw[hn]at b;have e:=(b.lt g rfl).1;have a:j<(bq t.key t.cols j).length:=(by rw[bU];exact hj);obtain⟨d,f⟩:=ac.stored b (j*4+2) (.bool true);rw[jZ _ _ a,oG _ _ _ hj a,<-mE hj he]at d;exact⟨(y9 w ⟨g,_,none⟩ S _ (by show S≠g;omega)).trans h.box,(y9 w ⟨g,_,none⟩ (S+1) _ (by show S+1≠g;omega)).trans h.res,by rw[hn];exact d,h.below.setCell (p:=⟨g,j*4+2,none⟩) (by show S<=g;omega) _⟩
theorem ji.col{g cap n:Nat}(h:ji S W t (.slice (some ⟨g,0,none⟩) n cap) dv j w)(hn:t.cols.length=n)(hj:j<t.cols.length):g<w.heap.size/\w.cell? ⟨g,j*4,none⟩=some (.string t.cols[j].nm)/\(∃b,w.cell? ⟨g,j*4+2,none⟩=some (.bool b))/\w.frozen? ⟨g,j*4+2,none⟩=false:=by
 have a:=h.c;rw[hn]at a;have d:j<(bq t.key t.cols j).length:=(by rw[bU];exact hj);obtain⟨c0,_,c2,_⟩:=jG (bq t.key t.cols j) j d;rw[oG _ _ _ hj d]at c0;exact⟨(a.lt g rfl).2,a.cell c0,⟨_,a.cell c2⟩,a.frozenAt _⟩
end
theorem EO{y:World}{base:Nat}{v:Value}{l:List C}(h:fj y v l)(hl:l.length<=1000)(hb:base<=y.heap.size)(h0:0<l.length):∃g a w',(Builtin.append_ #[57,57] 57 #[.slice none 0 0,v]).run prog y=.ok (.slice (some ⟨g,0,none⟩) l.length a) w'/\ac w' base 107 4 (.slice (some ⟨g,0,none⟩) l.length a) l.length (be l)/\Below y.heap.size y w':=by
 obtain⟨p,a,rfl,_,_⟩:=h.slice;obtain⟨b,f,rfl,o,c⟩:=jn.at h h0;obtain⟨r,i,k,m,n⟩:=info_parts xR
 obtain⟨g,d,w',s,t,e,A⟩:=aS (P:=prog) y y.heap.size 57 57 107 r _ 4 48 underlying57 i k m n rfl (by decide) (ac.nil (w:=y) (base:=y.heap.size)) ⟨b,f,none⟩ l.length a (be l) (gF l) (fun j u x=>by
  rw[Addr.add_lit];exact c j u x) (lX l) h0 (by unfold maxLen;omega) (by omega) (zo _)
 rw[xj,IU]at *;exact⟨g,d,w',s,t.mono hb,e.os,e.tape,e.output,e.size,fun q z=>e.block q z (by simp[Value.ownBlock])⟩
theorem oH{t:T}{cv dv:Value}{W:World}(h:dw W cv dv t)(hf:t.cols.length<=1000)(h0:0<t.cols.length):Calls prog 91 #[.agg #[.string t.nm,cv,.string t.key,dv]] W fun e w'=>∃p1 c1,e=.returned (.agg #[.string t.nm,.slice p1 t.cols.length c1,.string t.key,dv])/\dw w' (.slice p1 t.cols.length c1) dv (bj t)/\Below W.heap.size W w':=by
 obtain⟨pc,cc,R,a5,U⟩:=h.c.slice;obtain⟨p,o,V,a1,a2⟩:=h.d.slice;obtain⟨n,X⟩:=ae t.cols.length;obtain⟨nd,B⟩:=ae t.deps.length;obtain⟨S,E⟩:=ae W.heap.size;have F:=aD W (ar t.nm cv t.key dv);have r:=F.alloc F.size (ar e0 (.slice none 0 0) e0 (.slice none 0 0));have O:=cR (u:=ar e0 (.slice none 0 0) e0 (.slice none 0 0)) (z7 W (ar t.nm cv t.key dv));have k1:=z7 (W.alloc (ar t.nm cv t.key dv)) (ar e0 (.slice none 0 0) e0 (.slice none 0 0));have G:=EO (base:=S+2) (h.later r).c hf (by rw[zm,zm,E];exact zo _) h0;rw[E]at O;rw[zm,E]at k1;have H:((W.alloc (ar t.nm cv t.key dv)).alloc (ar e0 (.slice none 0 0) e0 (.slice none 0 0))).heap.size=S+2:=(by rw[zm,zm,E]);obtain⟨w0,I⟩:=ae ((W.alloc (ar t.nm cv t.key dv)).alloc (ar e0 (.slice none 0 0) e0 (.slice none 0 0)));rw[I]at O k1 r G H;rw[H,X]at G;rw[E]at r;rw[B]at V a1;rw[X]at R h0 hf;unfold maxLen at a2;obtain⟨g,c1,J,y,hr,hb⟩:=G;have s:=(hb.block S (by omega)).trans O;have Y:=(hb.block (S+1) (by omega)).trans k1
 have hI:ji S W t (.slice (some ⟨g,0,none⟩) n c1) dv 0 (J.setCell ⟨S,1,none⟩ (.slice (some ⟨g,0,none⟩) n c1)):=by
  have Z:∀(q:Nat),q≠S->(J.setCell ⟨S,1,none⟩ (.slice (some ⟨g,0,none⟩) n c1)).heap[q]?=J.heap[q]?:=(fun q h=>y9 J ⟨S,1,none⟩ q _ h);refine⟨y7 J S 1 _ _ _ s,(Z _ (by omega)).trans Y,?_,(r.trans (hb.mono (by omega))).setCell (p:=⟨S,1,none⟩) (zo _) _⟩;rw[X,mC];exact hr.of (fun k hk=>Z k (by have:=(hr.lt k hk).1;omega))
 have HI:=aa hI;have HW:=aa I;have HS:=aa E;have z:=aa (ab X (ab B h.d));have z1:=aA O 1;have zl:=aB O;have y1:=aA s 1;have yf:=zq J S 1 _ _ s;have yl:=aB s;subst R V;clear h I E O k1 F r H hr hb s Y hI X B;go_enter func91,ntmps91;go_upto_region 1 with fail;rw[HW.out,HS.out];go_upto_region 2 with (at_builtin;refine aT rfl (.const (.slice none 0 0)) (.tmp 5) 57 rfl rfl rfl y ?_);obtain⟨y2,a0⟩:=ae (J.setCell ⟨S,1,none⟩ (.slice (some ⟨g,0,none⟩) n c1));rw[a0]at HI ⊢;clear a0 y1 yf yl z1 zl y;go_wp2_with fail;go_loopg [3] (n+1) (fun gh jv w=>∃(j:Nat),jv=.int .i64 (j:Int)/\j<=n/\n+1<=j+gh/\ji S W t (.slice (some ⟨g,0,none⟩) n c1) (.slice p nd o) j w)
 case atStart=>exact⟨0,rfl,zj _,by omega,HI.out⟩
 obtain⟨j,rfl,hj,hg,A⟩:=hrel;obtain⟨zl,_,z1,z2,_⟩:=A.cells;by_cases a3:j<n
 ·have L:j<t.cols.length:=(by rw[z.1];exact a3);obtain⟨gl,g0,⟨b,g2⟩,gf⟩:=A.col z.1 L;have P:=aa A;have a6:(j:Int)<(n:Int):=(by omega);clear A;obtain⟨c,M⟩:=ae (t.cols[j]);rw[M]at g0;have HC:=aa M;clear M;go_upto_region 5 with fail;cases Q:ip c.nm t.key
  ·have HX:=aa Q;have a4:(c.nm.toList==t.key.toList)=false:=(by rw[aQ];exact Q);clear Q;refine Par.ag 9 [.pointer (some ⟨S,1,none⟩),.slice (some ⟨g,0,none⟩) n c1,.int .i64 (j:Int),.pointer (some ⟨g,j*4,none⟩),.pointer (some ⟨g,j*4,none⟩),.string (c.nm),.pointer (some ⟨S,2,none⟩),.string (t.key),.bool false] (fun w=>w=wr.drew) ?A1 ?hm1 ?hB1 ?hA1 (rfl) ?hop1 ?hT1
   case hm1=>kernel_rfl
   case hB1=>kernel_rfl
   case hA1 =>
    simp only[Par.am,Par.ai,Act.put,eh,ez,dz,eo,ew,ey,ed,ic,gy];rfl
   case hop1 =>
    simp only[en,zh,Par.ah,yo];and_intros<;>intro w' a
    ·have f:=aa a;obtain rfl:=a;simp only[Par.Gives];go_simp;all_goals exact f.out
    ·have f:=aa a;obtain rfl:=a;simp only[Par.Gives];go_simp;all_goals exact f.out
    ·have f:=aa a;obtain rfl:=a;simp only[Par.Gives];go_simp;all_goals exact f.out
    ·have f:=aa a;obtain rfl:=a;simp only[Par.Gives];go_simp;all_goals exact f.out
    ·have f:=aa a;obtain rfl:=a;simp only[Par.Gives];go_simp;all_goals exact f.out
    ·have f:=aa a;obtain rfl:=a;simp only[Par.Gives];go_simp;all_goals exact f.out
    ·have f:=aa a;obtain rfl:=a;simp only[Par.Gives];go_simp;all_goals exact f.out
    ·have f:=aa a;obtain rfl:=a;simp only[Par.Gives];go_simp;all_goals exact f.out
    have f:=aa a;obtain rfl:=a;simp only[Par.Gives];go_simp;all_goals exact f.out
   intro w' a;simp only[ex,ym];obtain rfl:=a;go_wp2_with fail;go_roundg (n-j)
   case measure=>omega
   exact⟨j+1,by go_num,by omega,by omega,(P.out.on (aG wr)).skip L (by rw[HC.out];exact HX.out)⟩
  have HX:=aa Q;have a4:(c.nm.toList==t.key.toList)=true:=(by rw[aQ];exact Q);clear Q;refine Par.ag 9 [.pointer (some ⟨S,1,none⟩),.slice (some ⟨g,0,none⟩) n c1,.int .i64 (j:Int),.pointer (some ⟨g,j*4,none⟩),.pointer (some ⟨g,j*4,none⟩),.string (c.nm),.pointer (some ⟨S,2,none⟩),.string (t.key),.bool true] (fun w=>w=wr.drew) ?A2 ?hm2 ?hB2 ?hA2 (rfl) ?hop2 ?hT2
  case hm2=>kernel_rfl
  case hB2=>kernel_rfl
  case hA2 =>
   simp only[Par.am,Par.ai,Act.put,eh,ez,dz,eo,ew,ey,ed,ic,gy];rfl
  case hop2 =>
   simp only[en,zh,Par.ah,yo];and_intros<;>intro w' a
   ·have f:=aa a;obtain rfl:=a;simp only[Par.Gives];go_simp;all_goals exact f.out
   ·have f:=aa a;obtain rfl:=a;simp only[Par.Gives];go_simp;all_goals exact f.out
   ·have f:=aa a;obtain rfl:=a;simp only[Par.Gives];go_simp;all_goals exact f.out
   ·have f:=aa a;obtain rfl:=a;simp only[Par.Gives];go_simp;all_goals exact f.out
   ·have f:=aa a;obtain rfl:=a;simp only[Par.Gives];go_simp;all_goals exact f.out
   ·have f:=aa a;obtain rfl:=a;simp only[Par.Gives];go_simp;all_goals exact f.out
   ·have f:=aa a;obtain rfl:=a;simp only[Par.Gives];go_simp;all_goals exact f.out
   ·have f:=aa a;obtain rfl:=a;simp only[Par.Gives];go_simp;all_goals exact f.out
   have f:=aa a;obtain rfl:=a;simp only[Par.Gives];go_simp;all_goals exact f.out
  intro w' a;simp only[ex,ym];obtain rfl:=a;go_wp2_with fail;go_roundg (n-j)
  case measure=>omega
  exact⟨j+1,by go_num,by omega,by omega,(P.out.on (aG wr)).take z.1 L (by rw[HC.out];exact HX.out)⟩
 obtain rfl:j=n:=(by omega);have m:=A.box;have l:=A.res;have z0:=aA m 0;have z1:=aA m 1;have z2:=aA m 2;have z3:=aA m 3;have zl:=aB m;have r0:=aA l 0;have r1:=aA l 1;have r2:=aA l 2;have r3:=aA l 3;have rf:=(fun i=>zq wr (S+1) i _ _ l);have rl:=aB l;have P:=aa A;clear A m l;go_wp2_with fail;have x:=mn P.out.res (.string t.nm) (.slice (some ⟨g,0,none⟩) j c1) (.string t.key) (.slice p nd o);have N:=bB P.out.below (show S<=S+1 by omega) (.string t.nm) (.slice (some ⟨g,0,none⟩) j c1) (.string t.key) (.slice p nd o);have hO:=cA wr (S+1);have ho:∀q:Nat,q≠S+1->((((wr.setCell ⟨S+1,0,none⟩ (.string t.nm)).setCell ⟨S+1,1,none⟩ (.slice (some ⟨g,0,none⟩) j c1)).setCell ⟨S+1,2,none⟩ (.string t.key)).setCell ⟨S+1,3,none⟩ (.slice p nd o)).heap[q]?=wr.heap[q]?:=(fun q h=>hO q h _ _ _ _);generalize (((wr.setCell _ _).setCell _ _).setCell _ _).setCell _ _=wz at x N ho ⊢;have y0:=aA x 0;have y1:=aA x 1;have y2:=aA x 2;have y3:=aA x 3;refine y8 (v:=.agg #[.string t.nm,(.slice (some ⟨g,0,none⟩) j c1),.string t.key,(.slice p nd o)]) (by simp[results,results91,go_sem,y0,y1,y2,y3]) rfl ?_;rw[z.1,HS.out];refine⟨_,_,rfl,⟨?_,z.2.2.later (by rw[HS.out];exact N)⟩,N⟩;have hc:=P.out.c;have e:bq t.key t.cols j=t.cols.map (lu t.key):=(by rw[<-z.1,oE]);rw[e,z.1]at hc;have U:=ac.Bu (hc.of (fun k hk=>ho k (by have:=(hc.lt k hk).1;omega))) (by decide) (by decide);show jn wz _ (t.cols.map (lu t.key)).length 4 _;rw[yd,z.1];exact U
section
variable{S TB:Nat}{W w w':World}{t:T}{cv dv:Value}{nm key:ByteArray}{cs:List C}{ds:List D}{cu du:Value}{ps:List Value}
end
section
variable{B:Nat}{w w':World}{us:List T}{v:Value}{xs:List Value}
end
section
variable{H:Type}{enc:TypeId×Value->H}{W:World}
end
section
variable{H:Type}{enc:TypeId×Value->H}{W:World}
end
def Wd(W:World)(v:Value)(l:List ByteArray):Prop:=∃p cap,v=.slice p l.length cap/\l.length<=cap/\cap<=maxLen/\(∀a,p=some a->a.spot=none)/\(0<l.length->∃b off cur m,p=some ⟨b,off,none⟩/\W.heap[b]?=some (.cells cur 9 m)/\∀j (h:j<l.length),cur[off+j]?=some (.string l[j]))
section
variable{W W':World}{v:Value}{l:List ByteArray}
theorem Wd.rd(h:Wd W v l):kh W v l:=by
 obtain⟨p,d,g,i,k,n,o⟩:=h;refine⟨gG l,p,d,g,i,k,n,fun q=>?_⟩;obtain⟨b,e,f,m,r,s,t⟩:=o q;refine⟨b,e,f,9,m,r,s,by decide,by decide,fun j u a=>?_⟩;unfold cellsS at a;rw[xe]at a;by_cases c:j<l.length
 ·rw[z6 c]at a;cases a;exact t j c
 rw[vn (by omega)]at a;cases a
end
section
variable{base:Nat}{v:Value}{vs us:List Value}{ps qs:List (List ByteArray)}{w w':World}
end
theorem Wd.lit{W:World}{b:Nat}{x:ByteArray}{m:Nat×Nat}(h:W.heap[b]?=some (.cells #[.string x] 9 m)):Wd W (.slice (some ⟨b,0,none⟩) 1 1) [x]:=
 ⟨_,1,rfl,zo _,by decide,fun a h=>(by cases h;rfl),fun _=>⟨b,0,_,m,rfl,h,fun j c=>by
  have:j=0:=(by simp at c;omega);subst this;rfl⟩⟩
theorem rO:∀(os:List Obj) (W:World) (k:Nat),k<W.heap.size->(os.foldl World.alloc W).heap[k]?=W.heap[k]?
 | [],_,_,_=>rfl
 | o::os,W,k,h=>by
  rw[List.foldl_cons,rO os _ _ (by rw[zm];omega)];exact we W o k h
theorem xS:∀(os:List Obj) (W:World) (i:Nat),i<os.length->(os.foldl World.alloc W).heap[W.heap.size+i]?=os[i]?
 | [],_,_,h=>absurd h (yh _)
 | o::os,W,0,_=>by
  rw[List.foldl_cons,rO os _ _ (by rw[zm];omega)];exact z7 W o
 | o::os,W,i+1,h=>by
  rw[List.foldl_cons]
  have:=xS os (W.alloc o) i (by simpa using h)
  rw[zm]at this;rw[show W.heap.size+(i+1)=W.heap.size+1+i by omega,this];rfl
theorem gH:∀(os:List Obj) (W:World),Below W.heap.size W (os.foldl World.alloc W)
 | [],_=>zg _ _
 | o::os,W=>by
  rw[List.foldl_cons];exact aC (aD W o) (gH os _)
theorem CC{W:World}{b b2:Nat}{x r:ByteArray}(h:W.heap[b]?=some (.cells #[.slice (some ⟨b2,0,none⟩) 1 1,.string r] 155))(h2:W.heap[b2]?=some (.cells #[.string x] 9)):px W (.slice (some ⟨b,0,none⟩) 1 1) [⟨[x],r⟩]:=
 ⟨[.slice (some ⟨b2,0,none⟩) 1 1],rfl,⟨rfl,_,1,rfl,zo _,by decide,fun a h=>(by cases h;rfl),fun _=>⟨b,0,_,155,_,rfl,h,by decide,by decide,fun j u c=>by
  rw[xj,List.getElem?_toArray];exact c⟩⟩,fun j a b=>by
  have:j=0:=(by simp at a;omega);subst this;exact(Wd.lit h2).rd⟩
abbrev an:ByteArray:=⟨#[108,97,110,100]⟩
abbrev ue:ByteArray:=⟨#[105,100]⟩
abbrev de:ByteArray:=⟨#[110,97,109,101]⟩
abbrev bh:ByteArray:=⟨#[115,104,111,112]⟩
abbrev tc:ByteArray:=⟨#[99,105,116,121]⟩
abbrev d':ByteArray:=⟨#[122,111,110,101]⟩
abbrev Ah:ByteArray:=⟨#[100,97,121]⟩
abbrev sD:ByteArray:=⟨#[100]⟩
abbrev ss:ByteArray:=⟨#[109,111,110,116,104]⟩
abbrev v7:ByteArray:=⟨#[121,101,97,114]⟩
abbrev AE:ByteArray:=⟨#[115,97,108,101]⟩
abbrev sN:ByteArray:=⟨#[110]⟩
abbrev BO:ByteArray:=⟨#[116,97,103]⟩
def ta:T:=⟨an,[⟨ue,1,false,e0⟩,⟨de,2,false,e0⟩],ue,[]⟩
def qm:T:=⟨bh,[⟨ue,1,false,e0⟩,⟨tc,2,true,e0⟩,⟨d',2,false,e0⟩,⟨an,1,false,an⟩],ue,[⟨[tc],d'⟩]⟩
def Ak:T:=⟨Ah,[⟨sD,2,false,e0⟩,⟨ss,1,true,e0⟩,⟨v7,1,false,e0⟩],sD,[⟨[ss],v7⟩]⟩
def rn:T:=⟨AE,[⟨bh,1,false,bh⟩,⟨Ah,2,false,Ah⟩,⟨sN,1,false,e0⟩,⟨BO,2,false,e0⟩],e0,[]⟩
def dn:List T:=[ta,qm,Ak,rn]
def sl(b n:Nat):Value:=.slice (some ⟨b,0,none⟩) n n
def qy(S:Nat):List Value:=[.string an,sl S 2,.string ue,.slice none 0 0,.string bh,sl (S+1) 4,.string ue,sl (S+3) 1,.string Ah,sl (S+4) 3,.string sD,sl (S+6) 1,.string AE,sl (S+7) 4,.string e0,.slice none 0 0]
def rx(S:Nat):List Obj:=[.cells (be ta.cols).toArray 107,.cells (be qm.cols).toArray 107,.cells #[.string tc] 9,.cells #[sl (S+2) 1,.string d'] 155,.cells (be Ak.cols).toArray 107,.cells #[.string ss] 9,.cells #[sl (S+5) 1,.string v7] 155,.cells (be rn.cols).toArray 107,.cells (qy S).toArray 60]
theorem rP(W:World):iq ((rx W.heap.size).foldl World.alloc W) (sl (W.heap.size+8) 4) dn:=by
 have h:=(fun i c=>xS (rx W.heap.size) W i c);obtain⟨w,d⟩:=ae ((rx W.heap.size).foldl World.alloc W);rw[d]at h ⊢;obtain⟨S,e⟩:=ae W.heap.size;rw[e]at h ⊢;have f:=h 0 (show(0:Nat)<9 by decide);have g:=h 1 (show(1:Nat)<9 by decide);have k:=h 2 (show(2:Nat)<9 by decide);have m:=h 3 (show(3:Nat)<9 by decide);have n:=h 4 (show(4:Nat)<9 by decide);have o:=h 5 (show(5:Nat)<9 by decide);have p:=h 6 (show(6:Nat)<9 by decide);have q:=h 7 (show(7:Nat)<9 by decide);have b:=h 8 (show(8:Nat)<9 by decide);have r:dw w (sl S 2) (.slice none 0 0) ta:=⟨fj.lit (l:=ta.cols) f (by decide),px.none _⟩;have s:dw w (sl (S+1) 4) (sl (S+3) 1) qm:=⟨fj.lit (l:=qm.cols) g (by decide),CC (b2:=S+2) m k⟩;have t:dw w (sl (S+4) 3) (sl (S+6) 1) Ak:=⟨fj.lit (l:=Ak.cols) n (by decide),CC (b2:=S+5) p o⟩;have v:dw w (sl (S+7) 4) (.slice none 0 0) rn:=⟨fj.lit (l:=rn.cols) q (by decide),px.none _⟩;refine⟨_,4,qy S,rfl,zo _,by decide,fun _=>⟨S+8,0,rfl,aB b,fun j u a=>?_⟩,rfl,fun j a=>?_⟩
 ·rw[aA b,xj,List.getElem?_toArray];exact a
 match j,a with
 | 0,_=>exact⟨_,_,rfl,rfl,rfl,rfl,r⟩
 | 1,_=>exact⟨_,_,rfl,rfl,rfl,rfl,s⟩
 | 2,_=>exact⟨_,_,rfl,rfl,rfl,rfl,t⟩
 | 3,_=>exact⟨_,_,rfl,rfl,rfl,rfl,v⟩
 | j+4,a=>exact absurd a (by simp[dn])
theorem D'(W:World):Calls prog 53 #[] W fun e w'=>∃v,e=.returned v/\iq w' v dn/\Below W.heap.size W w':=by
 have a:=aa (ab (rP W) (gH (rx W.heap.size) W));go_enter func53,ntmps53;go_wp2_with fail;go_ret;exact⟨_,rfl,a.1,a.2⟩
section
variable{S:Nat}{W w w':World}{ks:List T}{v:Value}
end
abbrev zC:Obj:=.cells #[.string e0,.int .i64 0,.bool false,.string e0] 107
abbrev oC(c:C):Obj:=.cells #[.string c.nm,.int .i64 c.kd,.bool c.mu,.string c.tgt] 107
structure Je (w0:World) (E:Nat->Value) (c:C) (l:Nat->Bool) (vs:Nat->Value) (w:World):Prop where
 b:Below w0.heap.size w0 w
 ev:∀j,j<10->l j=true->vs j=E j
 IM:l 10=true->∃g,vs 10=.pointer (some ⟨g,0,none⟩)/\w0.heap.size<=g/\w.heap[g]?=some (if l 12=true then oC c else zC)
 IK:l 11=true->∃g,vs 11=.pointer (some ⟨g,0,none⟩)/\w0.heap.size<=g/\w.heap[g]?=some zC
 ne:l 10=true->l 11=true->vs 10≠vs 11
section
open Par
variable{w0 w:World}{E:Nat->Value}{c:C}{l:Nat->Bool}{vs:Nat->Value}
theorem aL{l:Nat->Bool}{i j:Nat}(h:j≠i):fg l i j=l j:=by simp[fg,h]
theorem aO{vs:Nat->Value}{i j:Nat}{v:Value}(h:j≠i):ef vs i v j=vs j:=by simp[ef,h]
theorem cJ{l:Nat->Bool}{i:Nat}:fg l i i=true:=by simp[fg]
theorem bI{vs:Nat->Value}{i:Nat}{v:Value}:ef vs i v i=v:=by simp[ef]
end
