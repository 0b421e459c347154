import Derived.Test.YthlccadnojnkaaaGreatZn16
import Derived.Lib.SliceRun
import Derived.Laws.Cover1
set_option maxHeartbeats 2000000
set_option maxRecDepth 100000
namespace Go.Proofs.YthlccadnojnkaaaGreat
open Go.Proofs.Tryz
open Go Go.RowKit Go.Proofs
def mt(e:TypeId):Bool:=!(e==95 || e==9 || e==124)
def it(a b:ByteArray):Bool:=a.data.toList==b.data.toList
theorem aR(a b:ByteArray):(a.toList==b.toList)=it a b:=by rw[wu,wu];rfl
theorem eZ{a b:ByteArray}:it a b=true↔a=b:=by
 unfold it;rw[u9];constructor
 ·intro h;cases a;cases b
  congr 1
  exact Array.toList_inj.1 h
 rintro rfl;rfl
section
variable {α:Type}{p:α->Bool}
theorem eN:∀(l:List α) (j:Nat) (h:j<l.length),p l[j]=true->(∀i (d:i<j),p (l[i]'(by omega))=false)->l.find? p=some l[j]/\l.any p=true/\l.findIdx? p=some j
 | [],j,h,_,_=>absurd h (yo j)
 | a::r,0,_,b,_=>by
  have b:p a=true:=b;simp[List.any_cons,List.findIdx?_cons,b]
 | a::r,j+1,h,b,hn=>by
  have c:p a=false:=hn 0 (by omega);have e:j<r.length:=(by simpa using h);obtain⟨f,g,k⟩:=eN r j e b (fun i d=>hn (i+1) (by omega));refine⟨?_,?_,?_⟩
  ·rw[List.find?_cons,c];exact f
  ·rw[List.any_cons,c];exact g
  ·rw[List.findIdx?_cons,c,k];rfl
theorem iZ(l:List α)(hn:∀i (b:i<l.length),p l[i]=false):l.find? p=none/\l.any p=false/\l.findIdx? p=none:=by
 have h:∀x∈l,p x=false:=fun x a=>by
  obtain⟨i,b,rfl⟩:=xz a;exact hn i b
 refine⟨?_,?_,?_⟩
 ·rw[ud];intro x a;simp[h x a]
 ·rw[vn];intro x a;simp[h x a]
 rw[List.findIdx?_eq_none_iff];exact h
end
structure C where
 nm:ByteArray
 kd:Int
 mu:Bool
 tgt:ByteArray
structure D where
 left:List ByteArray
 right:ByteArray
structure T where
 nm:ByteArray
 cols:List C
 key:ByteArray
 deps:List D
abbrev e0:ByteArray:=⟨#[]⟩
def ns(x:ByteArray)(c:C):Bool:=it c.nm x
def dr(l:List C)(x:ByteArray):Bool:=l.any (ns x)
def eo(l:List C)(x:ByteArray):Option C:=l.find? (ns x)
def gx(l:List C)(x:ByteArray):Int:=match l.findIdx? (ns x)with|none=>-1|some j=>(j:Int)
def qc(x:ByteArray)(t:T):Bool:=it t.nm x
def be(l:List T)(x:ByteArray):Option T:=l.find? (qc x)
def ft(l:List T)(x:ByteArray):Bool:=l.any (qc x)
def ja(l:List ByteArray)(x:ByteArray):Bool:=l.any (it x)
def mq(key:ByteArray)(c:C):C:={ c with mu:=c.mu || it c.nm key }
def bh(t:T):T:={ t with cols:=t.cols.map (mq t.key) }
def jw(W:World)(v:Value)(n k:Nat)(xs:List Value):Prop:=
 xs.length=n*k/\∃p cap,v=.slice p n cap/\n<=cap/\cap<=maxLen/\(∀a,p=some a->a.spot=none)/\(0<n->∃b off cur e m,p=some ⟨b,off,none⟩/\W.heap[b]?=some (.cells cur e m)/\e≠116/\mt e=false/\∀j u,xs[j]?=some u->cur[off+j]?=some u)
def Kp(W W':World):Prop:=∀(b:Nat) (cur:Array Value) (e:TypeId) (m:Nat×Nat),W.heap[b]?=some (Obj.cells cur e m)->e≠116->mt e=false->W'.heap[b]?=some (Obj.cells cur e m)
theorem Kp.trans{A B C:World}(h:Kp A B)(k:Kp B C):Kp A C:=fun b a e m x y z=>k b a e m (h b a e m x y z) y z
theorem Kp.below{W W':World}(h:Below W.heap.size W W'):Kp W W':=fun b _ _ _ x _ _=>(h.block b (aC x)).trans x
section
variable {W W':World}{v:Value}{n k:Nat}{xs:List Value}
theorem jw.kp(h:jw W v n k xs)(hk:Kp W W'):jw W' v n k xs:=by
 obtain⟨j,p,c,l,o,q,d,r⟩:=h;refine⟨j,p,c,l,o,q,d,fun s=>?_⟩;obtain⟨b,f,a,e,m,t,u,g,i,w⟩:=r s;exact⟨b,f,a,e,m,t,hk b a e m u g i,g,i,w⟩
theorem jw.slice(h:jw W v n k xs):∃p a,v=.slice p n a/\n<=a/\a<=maxLen:=by
 obtain⟨f,p,a,b,c,d,e,g⟩:=h;exact⟨p,a,b,c,d⟩
theorem jw.spot{p:Option Addr}{cap:Nat}(h:jw W (.slice p n cap) n k xs):p=none∨∃b c,p=some ⟨b,c,none⟩:=by
 obtain⟨g,i,e,f,j,l,d,m⟩:=h;obtain⟨rfl,-,rfl⟩:=Value.slice.inj f;cases p with
 | none=>exact .inl rfl
 | some a =>
  have:=d a rfl
  obtain⟨b,c,s⟩:=a;obtain rfl:s=none:=this;exact .inr ⟨b,c,rfl⟩
theorem jw.at{p:Option Addr}{cap:Nat}(h:jw W (.slice p n cap) n k xs)(hn:0<n):∃b a,p=some ⟨b,a,none⟩/\b<W.heap.size/\∀j u,xs[j]?=some u->W.cell? ⟨b,a+j,none⟩=some u:=by
 obtain⟨s,t,c,f,v,w,g,i⟩:=h;obtain⟨rfl,-,rfl⟩:=Value.slice.inj f;obtain⟨b,a,l,e,m,o,d,x,y,q⟩:=i hn;exact⟨b,a,o,aC d,fun j u r=>by simp only[World.cell?,d];exact q j u r⟩
theorem jw.take{p:Option Addr}{cap:Nat}(h:jw W (.slice p n cap) n k xs){i:Nat}(hi:i<=n):jw W (.slice p i cap) i k (xs.take (i*k)):=by
 obtain⟨l,z,g,o,A,q,c,r⟩:=h;obtain⟨rfl,-,rfl⟩:=Value.slice.inj o;have s:i*k<=n*k:=Nat.mul_le_mul_right _ hi;refine⟨by rw[we,l];omega,p,cap,rfl,by omega,q,c,fun B=>?_⟩;obtain⟨b,d,f,e,m,t,v,w,x,y⟩:=r (by omega);refine⟨b,d,f,e,m,t,v,w,x,fun j u a=>y j u ?_⟩;rw[List.getElem?_take]at a;split at a
 ·exact a
 cases a
theorem ac.BT{base:Nat}{e:TypeId}(h:ac W base e k v n xs)(h1:e≠116)(h2:mt e=false):jw W v n k xs:=by
 refine⟨h.1,?_⟩;rcases h.2 with ⟨rfl,rfl⟩ | ⟨g,c,d,rfl,o,f,i,l,p,m⟩
 ·exact⟨none,0,rfl,zm _,zh _,fun a h=>(by cases h),fun h=>absurd h (ub _)⟩
 refine⟨some ⟨g,0,none⟩,c,rfl,i,l,fun a h=>(by cases h;rfl),fun _=>⟨g,0,d,e,_,rfl,f,h1,h2,fun j u b=>?_⟩⟩;rw[<-m,List.getElem?_take]at b;split at b
 ·rw[xq,<-Array.getElem?_toList];exact b
 cases b
end
def ba(l:List C):List Value:=l.flatMap fun c=>[.string c.nm,.int .i64 c.kd,.bool c.mu,.string c.tgt]
def cellsS(l:List ByteArray):List Value:=l.map Value.string
theorem bO(c:C)(r:List C):ba (c::r)=.string c.nm::.int .i64 c.kd::.bool c.mu::.string c.tgt::ba r:=by simp[ba]
theorem gX(xs:List C):(ba xs).length=xs.length*4:=by
 induction xs with
 | nil=>rfl
 | cons x r ih=>rw[bO];simp only[xe,ih];omega
theorem jV(xs:List C)(i:Nat)(h:i<xs.length):(ba xs)[i*4]?=some (.string xs[i].nm)/\(ba xs)[i*4+1]?=some (.int .i64 xs[i].kd)/\(ba xs)[i*4+2]?=some (.bool xs[i].mu)/\(ba xs)[i*4+3]?=some (.string xs[i].tgt):=by
 induction xs generalizing i with
 | nil=>simp at h
 | cons y r ih =>
  cases i with
  | zero=>simp[bO]
  | succ i =>
   have:=ih i (by simpa using h)
   rw[bO,show(i+1)*4=i*4+1+1+1+1 by omega,show i*4+1+1+1+1+1=i*4+1+1+1+1+1 by omega,show i*4+1+1+1+1+2=i*4+2+1+1+1+1 by omega,show i*4+1+1+1+1+3=i*4+3+1+1+1+1 by omega];simp only[bt,List.getElem_cons_succ];exact this
theorem sQ(xs:List C)(i:Nat):(ba xs).take (i*4)=ba (xs.take i):=by
 induction xs generalizing i with
 | nil=>simp[ba]
 | cons y r ih =>
  cases i with
  | zero=>simp[ba]
  | succ i=>rw[bO,show(i+1)*4=i*4+1+1+1+1 by omega];simp only[ce,bO,ih]
def fu(W:World)(v:Value)(l:List C):Prop:=jw W v l.length 4 (ba l)
def lg(W:World)(v:Value)(l:List ByteArray):Prop:=jw W v l.length 1 (cellsS l)
theorem fu.col{W:World}{p:Option Addr}{n cap:Nat}{l:List C}(h:fu W (.slice p n cap) l){i:Nat}(hi:i<l.length):∃b a,p=some ⟨b,a,none⟩/\b<W.heap.size/\W.cell? ⟨b,a+i*4,none⟩=some (.string l[i].nm)/\W.cell? ⟨b,a+i*4+1,none⟩=some (.int .i64 l[i].kd)/\W.cell? ⟨b,a+i*4+2,none⟩=some (.bool l[i].mu)/\W.cell? ⟨b,a+i*4+3,none⟩=some (.string l[i].tgt):=by
 obtain⟨_,_,e,_,_⟩:=jw.slice h;obtain⟨rfl,rfl,rfl⟩:=Value.slice.inj e;obtain⟨b,a,d,f,c⟩:=jw.at h (by omega);obtain⟨c0,c1,c2,c3⟩:=jV l i hi;exact⟨b,a,d,f,c _ _ c0,by rw[Nat.add_assoc];exact c _ _ c1,by rw[Nat.add_assoc];exact c _ _ c2,by rw[Nat.add_assoc];exact c _ _ c3⟩
theorem lg.word{W:World}{p:Option Addr}{n cap:Nat}{l:List ByteArray}(h:lg W (.slice p n cap) l){i:Nat}(hi:i<l.length):∃b a,p=some ⟨b,a,none⟩/\b<W.heap.size/\W.cell? ⟨b,a+i,none⟩=some (.string l[i]):=by
 obtain⟨_,_,e,_,_⟩:=jw.slice h;obtain⟨rfl,rfl,rfl⟩:=Value.slice.inj e;obtain⟨b,a,c,d,f⟩:=jw.at h (by omega);exact⟨b,a,c,d,f _ _ (by unfold cellsS;rw[xm,z6 hi];rfl)⟩
theorem mj{x:World}{b:Nat}{a0 a1 a2 a3:Value}{t:TypeId}(h:x.heap[b]?=some (.cells #[a0,a1,a2,a3] t))(a c d e:Value):((((x.setCell ⟨b,0,none⟩ a).setCell ⟨b,1,none⟩ c).setCell ⟨b,2,none⟩ d).setCell ⟨b,3,none⟩ e).heap[b]?=some (.cells #[a,c,d,e] t):=by
 rw[y9 _ b 3 #[a,c,d,a3] t e (y9 _ b 2 #[a,c,a2,a3] t d (y9 _ b 1 #[a,a1,a2,a3] t c (y9 _ b 0 #[a0,a1,a2,a3] t a h)))];rfl
theorem bD{n b:Nat}{A x:World}(h:Below n A x)(hb:n<=b)(a c d e:Value):Below n A ((((x.setCell ⟨b,0,none⟩ a).setCell ⟨b,1,none⟩ c).setCell ⟨b,2,none⟩ d).setCell ⟨b,3,none⟩ e):=
 (((h.setCell (p:=⟨b,0,none⟩) hb a).setCell (p:=⟨b,1,none⟩) hb c).setCell (p:=⟨b,2,none⟩) hb d).setCell (p:=⟨b,3,none⟩) hb e
theorem dH{x:World}{b:Nat}{o u:Obj}(h:x.heap[b]?=some o):(x.alloc u).heap[b]?=some o:=(wi x u b (aC h)).trans h
theorem fu.slice{W:World}{v:Value}{l:List C}(h:fu W v l):∃p a,v=.slice p l.length a/\l.length<=a/\a<=maxLen:=jw.slice h
theorem lg.slice{W:World}{v:Value}{l:List ByteArray}(h:lg W v l):∃p a,v=.slice p l.length a/\l.length<=a/\a<=maxLen:=jw.slice h
theorem fu.take{W:World}{p:Option Addr}{n cap:Nat}{l:List C}(h:fu W (.slice p n cap) l){i:Nat}(hi:i<=n):fu W (.slice p i cap) (l.take i):=by
 obtain⟨_,_,e,_,_⟩:=jw.slice h;obtain⟨-,rfl,-⟩:=Value.slice.inj e
 have:=jw.take h hi
 unfold fu;rw[<-sQ,we,Nat.min_eq_left hi];exact this
theorem lg.take{W:World}{p:Option Addr}{n cap:Nat}{l:List ByteArray}(h:lg W (.slice p n cap) l){i:Nat}(hi:i<=n):lg W (.slice p i cap) (l.take i):=by
 obtain⟨_,_,e,_,_⟩:=jw.slice h;obtain⟨-,rfl,-⟩:=Value.slice.inj e
 have:=jw.take h hi
 unfold lg;rw[we,Nat.min_eq_left hi];unfold cellsS at this ⊢;rw[Nat.mul_one,<-List.map_take]at this;exact this
def cellsD:List Value->List D->List Value
 | p::ps,d::ds=>p::.string d.right::cellsD ps ds
 | _,_=>[]
theorem pD:∀(ps:List Value) (ds:List D) (i:Nat) (h:i<ps.length) (a:i<ds.length),(cellsD ps ds)[i*2]?=some ps[i]/\(cellsD ps ds)[i*2+1]?=some (.string ds[i].right)
 | [],_,_,h,_=>absurd h (yo _)
 | _::_,[],_,_,h=>absurd h (yo _)
 | p::ps,d::ds,0,_,_=>⟨rfl,rfl⟩
 | p::ps,d::ds,i+1,h,a=>by
  have:=pD ps ds i (by simpa using h) (by simpa using a)
  rw[show(i+1)*2=i*2+1+1 by omega];simp only[cellsD,bt,List.getElem_cons_succ];exact this
theorem gU:∀(ps:List Value) (ds:List D) (q:List Value) (a:List D),ps.length=ds.length->cellsD (ps++q) (ds++a)=cellsD ps ds++cellsD q a
 | [],[],_,_,_=>rfl
 | [],_::_,_,_,h=>by simp at h
 | _::_,[],_,_,h=>by simp at h
 | p::ps,d::ds,q,a,h=>by
  have:=gU ps ds q a (by simpa using h)
  simp only[ui,cellsD,this]
def pz(W:World)(v:Value)(ds:List D):Prop:=∃ps:List Value,ps.length=ds.length/\jw W v ds.length 2 (cellsD ps ds)/\∀j (h:j<ps.length) (h':j<ds.length),lg W ps[j] ds[j].left
theorem fu.kp{W W':World}{v:Value}{l:List C}(h:fu W v l)(hk:Kp W W'):fu W' v l:=jw.kp h hk
theorem fu.later{W W':World}{v:Value}{l:List C}(h:fu W v l)(hb:Below W.heap.size W W'):fu W' v l:=jw.kp h (.below hb)
theorem lg.kp{W W':World}{v:Value}{l:List ByteArray}(h:lg W v l)(hk:Kp W W'):lg W' v l:=jw.kp h hk
theorem lg.later{W W':World}{v:Value}{l:List ByteArray}(h:lg W v l)(hb:Below W.heap.size W W'):lg W' v l:=jw.kp h (.below hb)
theorem pz.kp{W W':World}{v:Value}{ds:List D}(h:pz W v ds)(hk:Kp W W'):pz W' v ds:=by
 obtain⟨ps,c,d,e⟩:=h;exact⟨ps,c,jw.kp d hk,fun j a b=>(e j a b).kp hk⟩
theorem pz.later{W W':World}{v:Value}{ds:List D}(h:pz W v ds)(hb:Below W.heap.size W W'):pz W' v ds:=h.kp (.below hb)
theorem pz.slice{W:World}{v:Value}{ds:List D}(h:pz W v ds):∃p a,v=.slice p ds.length a/\ds.length<=a/\a<=maxLen:=by
 obtain⟨ps,c,b,d⟩:=h;exact jw.slice b
theorem pz.dep{W:World}{p:Option Addr}{n cap:Nat}{ds:List D}(h:pz W (.slice p n cap) ds){i:Nat}(hi:i<ds.length):∃b a lv,p=some ⟨b,a,none⟩/\b<W.heap.size/\W.cell? ⟨b,a+i*2,none⟩=some lv/\W.cell? ⟨b,a+i*2+1,none⟩=some (.string ds[i].right)/\lg W lv ds[i].left:=by
 obtain⟨ps,k,c,f⟩:=h;obtain⟨_,_,e,_,_⟩:=jw.slice c;obtain⟨rfl,rfl,rfl⟩:=Value.slice.inj e;obtain⟨b,a,g,j,d⟩:=jw.at c (by omega);obtain⟨c0,c1⟩:=pD ps ds i (by omega) hi;exact⟨b,a,_,g,j,d _ _ c0,by rw[Nat.add_assoc];exact d _ _ c1,f i (by omega) hi⟩
def ey(W:World)(cv dv:Value)(t:T):Prop:=fu W cv t.cols/\pz W dv t.deps
theorem ey.kp{W W':World}{cv dv:Value}{t:T}(h:ey W cv dv t)(hk:Kp W W'):ey W' cv dv t:=⟨h.1.kp hk,h.2.kp hk⟩
theorem ey.later{W W':World}{cv dv:Value}{t:T}(h:ey W cv dv t)(hb:Below W.heap.size W W'):ey W' cv dv t:=h.kp (.below hb)
def mr(B:Nat)(W0:World)(S:Nat)(c:C)(v:Value)(l:List C)(w:World):Prop:=
 w.heap[S]?=some (.cells #[.string c.nm,.int .i64 c.kd,.bool c.mu,.string c.tgt] 95)/\fu w v l/\Below B W0 w/\B<=S
theorem mr.on{B:Nat}{W0:World}{S:Nat}{c:C}{v:Value}{l:List C}{w w':World}(h:mr B W0 S c v l w)(hb:Below w.heap.size w w'):mr B W0 S c v l w':=
 ⟨(hb.block _ (aC h.1)).trans h.1,h.2.1.later hb,h.2.2.1.trans (hb.mono (zw h.2.2.2 (Nat.le_of_lt (aC h.1)))),h.2.2.2⟩
theorem mr.cell{B:Nat}{W0:World}{S:Nat}{c:C}{v:Value}{l:List C}{w:World}(h:mr B W0 S c v l w):S<w.heap.size/\w.cell? ⟨S,0,none⟩=some (.string c.nm)/\w.cell? ⟨S,1,none⟩=some (.int .i64 c.kd)/\w.cell? ⟨S,2,none⟩=some (.bool c.mu)/\w.cell? ⟨S,3,none⟩=some (.string c.tgt):=
 ⟨aC h.1,aA h.1 0,aA h.1 1,aA h.1 2,aA h.1 3⟩
theorem mr.new{B:Nat}{W0:World}{c:C}{v:Value}{l:List C}{w:World}(hl:fu w v l)(hb:Below B W0 w)(hB:B<=w.heap.size):mr B W0 w.heap.size c v l (w.alloc (.cells #[.string c.nm,.int .i64 c.kd,.bool c.mu,.string c.tgt] 95)):=
 ⟨z7 w _,hl.later (aD w _),hb.alloc hB _,hB⟩
abbrev ax(nm:ByteArray)(cv:Value)(key:ByteArray)(dv:Value):Obj:=.cells #[.string nm,cv,.string key,dv] 77
theorem aE{w w':World}{b:Nat}{o:Obj}(hb:Below w.heap.size w w')(h:w.heap[b]?=some o):w'.heap[b]?=some o:=(hb.block _ (aC h)).trans h
structure fm (B:Nat) (W0:World) (S0:Nat) (t:T) (cv dv:Value) (w:World):Prop where
 box:w.heap[S0]?=some (ax t.nm cv t.key dv)
 tab:ey w cv dv t
 below:Below B W0 w
 le:B<=S0
section
variable {B:Nat}{W0:World}{S0:Nat}{t:T}{cv dv:Value}{w w':World}
theorem fm.size(h:fm B W0 S0 t cv dv w):B<=w.heap.size:=zw h.le (Nat.le_of_lt (aC h.box))
theorem fm.on(h:fm B W0 S0 t cv dv w)(hb:Below w.heap.size w w'):fm B W0 S0 t cv dv w':=
 ⟨aE hb h.box,h.tab.later hb,h.below.trans (hb.mono h.size),h.le⟩
theorem fm.cells(h:fm B W0 S0 t cv dv w):S0<w.heap.size/\w.cell? ⟨S0,0,none⟩=some (.string t.nm)/\w.cell? ⟨S0,1,none⟩=some cv/\w.cell? ⟨S0,2,none⟩=some (.string t.key)/\w.cell? ⟨S0,3,none⟩=some dv:=
 ⟨aC h.box,aA h.box 0,aA h.box 1,aA h.box 2,aA h.box 3⟩
theorem fm.new(h:ey w cv dv t):fm w.heap.size w w.heap.size t cv dv (w.alloc (ax t.nm cv t.key dv)):=
 ⟨z7 w _,h.later (aD w _),aD w _,zm _⟩
end
structure iy (B:Nat) (W0:World) (S0 S:Nat) (t:T) (cv dv:Value) (d:D) (lv:Value) (w:World):Prop where
 tb:fm B W0 S0 t cv dv w
 dep:w.heap[S]?=some (.cells #[lv,.string d.right] 124)
 left:lg w lv d.left
section
variable {B:Nat}{W0:World}{S0 S:Nat}{t:T}{cv dv:Value}{d:D}{lv:Value}{w w':World}
theorem iy.on(h:iy B W0 S0 S t cv dv d lv w)(hb:Below w.heap.size w w'):iy B W0 S0 S t cv dv d lv w':=
 ⟨h.tb.on hb,aE hb h.dep,h.left.later hb⟩
theorem iy.cells(h:iy B W0 S0 S t cv dv d lv w):S<w.heap.size/\w.cell? ⟨S,0,none⟩=some lv/\w.cell? ⟨S,1,none⟩=some (.string d.right):=
 ⟨aC h.dep,aA h.dep 0,aA h.dep 1⟩
theorem iy.new(h:fm B W0 S0 t cv dv w)(hl:lg w lv d.left):iy B W0 S0 w.heap.size t cv dv d lv (w.alloc (.cells #[lv,.string d.right] 124)):=
 ⟨h.on (aD w _),z7 w _,hl.later (aD w _)⟩
end
def jy(W:World)(xs:List Value)(ts:List T):Prop:=xs.length=ts.length*4/\∀j (h:j<ts.length),∃cv dv,xs[j*4]?=some (.string ts[j].nm)/\xs[j*4+1]?=some cv/\xs[j*4+2]?=some (.string ts[j].key)/\xs[j*4+3]?=some dv/\ey W cv dv ts[j]
theorem jy.kp{W W':World}{xs:List Value}{ts:List T}(h:jy W xs ts)(hk:Kp W W'):jy W' xs ts:=⟨h.1,fun j a=>by
 obtain⟨cv,dv,b,c,d,e,f⟩:=h.2 j a;exact⟨cv,dv,b,c,d,e,f.kp hk⟩⟩
theorem jy.nil(W:World):jy W [] []:=⟨rfl,fun j h=>absurd h (yo j)⟩
theorem jy.snoc{W:World}{xs:List Value}{ts:List T}(h:jy W xs ts){t:T}{cv dv:Value}(ht:ey W cv dv t):jy W (xs++[.string t.nm,cv,.string t.key,dv]) (ts++[t]):=by
 refine⟨by simp[h.1];omega,fun j a=>?_⟩;by_cases e:j<ts.length
 ·obtain⟨cv,dv,b,c,d,f,g⟩:=h.2 j e;rw[xc e];exact⟨cv,dv,by rw[wf (by rw[h.1];omega)];exact b,by rw[wf (by rw[h.1];omega)];exact c,by rw[wf (by rw[h.1];omega)];exact d,by rw[wf (by rw[h.1];omega)];exact f,g⟩
 have i:j=ts.length:=(by simp at a;omega);subst i;have k:(ts++[t])[ts.length]=t:=(by simp);rw[k];refine⟨cv,dv,?_,?_,?_,?_,ht⟩ <;> rw[ye (by rw[h.1];omega),h.1] <;> simp
def iu(W:World)(v:Value)(ts:List T):Prop:=∃p cap xs,v=.slice p ts.length cap/\ts.length<=cap/\cap<=maxLen/\(0<ts.length->∃b off,p=some ⟨b,off,none⟩/\b<W.heap.size/\∀j u,xs[j]?=some u->W.cell? ⟨b,off+j,none⟩=some u)/\jy W xs ts
theorem iu.later{W W':World}{v:Value}{ts:List T}(h:iu W v ts)(hb:Below W.heap.size W W'):iu W' v ts:=by
 obtain⟨p,a,xs,e,f,g,i,k⟩:=h;refine⟨p,a,xs,e,f,g,fun l=>?_,k.kp (.below hb)⟩;obtain⟨b,c,m,d,n⟩:=i l;exact⟨b,c,m,z9 d hb.size,fun j u o=>(za (w:=W) (hb.block b d)).trans (n j u o)⟩
theorem iu.slice{W:World}{v:Value}{ts:List T}(h:iu W v ts):∃p a,v=.slice p ts.length a/\ts.length<=a/\a<=maxLen:=by
 obtain⟨p,a,xs,b,c,d,e,f⟩:=h;exact⟨p,a,b,c,d⟩
theorem iu.nil(W:World):iu W (.slice none 0 0) []:=⟨none,0,[],rfl,zm _,zh _,fun h=>absurd h (ub _),jy.nil W⟩
theorem iu.tab{W:World}{p:Option Addr}{n cap:Nat}{ts:List T}(h:iu W (.slice p n cap) ts){i:Nat}(hi:i<ts.length):∃b a cv dv,p=some ⟨b,a,none⟩/\b<W.heap.size/\W.cell? ⟨b,a+i*4,none⟩=some (.string ts[i].nm)/\W.cell? ⟨b,a+i*4+1,none⟩=some cv/\W.cell? ⟨b,a+i*4+2,none⟩=some (.string ts[i].key)/\W.cell? ⟨b,a+i*4+3,none⟩=some dv/\ey W cv dv ts[i]:=by
 obtain⟨l,d,xs,e,m,o,f,g⟩:=h;obtain⟨rfl,rfl,rfl⟩:=Value.slice.inj e;obtain⟨b,a,j,k,c⟩:=f (by omega);obtain⟨cv,dv,c0,c1,c2,c3,c4⟩:=g.2 i hi;exact⟨b,a,cv,dv,j,k,c _ _ c0,by rw[Nat.add_assoc];exact c _ _ c1,by rw[Nat.add_assoc];exact c _ _ c2,by rw[Nat.add_assoc];exact c _ _ c3,c4⟩
def pw:T:=⟨e0,[],e0,[]⟩
def oe(o:Option T):T:=o.getD pw
theorem sT(W:World):ey W (.slice none 0 0) (.slice none 0 0) pw:=
 ⟨⟨rfl,none,0,rfl,zm _,zh _,fun a h=>(by cases h),fun h=>absurd h (ub _)⟩,[],rfl,⟨rfl,none,0,rfl,zm _,zh _,fun a h=>(by cases h),fun h=>absurd h (ub _)⟩,fun j h=>absurd h (yo j)⟩
theorem ey.c{W:World}{cv dv:Value}{t:T}(h:ey W cv dv t):fu W cv t.cols:=h.1
theorem ey.d{W:World}{cv dv:Value}{t:T}(h:ey W cv dv t):pz W dv t.deps:=h.2
theorem zK:(prog.info? 95).map (fun i=>(i.zero,i.size,i.bytes))=some (some (.agg #[.string e0,.int .i64 0,.bool false,.string e0]),4,48):=by kernel_rfl
theorem Dk:(prog.info? 9).map (fun i=>(i.zero,i.size,i.bytes))=some (some (.string e0),1,16):=by kernel_rfl
theorem mI(l:List C):∀u∈ba l,u.oneCell'=true:=by
 intro u a;unfold ba at a;rw[List.mem_flatMap]at a;obtain⟨c,_,b⟩:=a;simp only[wg,vz,or_false]at b;rcases b with rfl|rfl|rfl|rfl <;> rfl
theorem wX(l:List ByteArray):∀u∈cellsS l,u.oneCell'=true:=by
 intro u a;obtain⟨c,_,rfl⟩:=List.mem_map.1 a;rfl
theorem mJ{l:List C}{v:Value}{W:World}(h:fu W v l)(hl:l.length<=1000):Calls prog 116 #[v] W fun e w'=>∃s,e=.returned s/\ac w' W.heap.size 95 4 s l.length (ba l)/\Below W.heap.size W w':=by
 obtain⟨J,L,x,y,z⟩:=info_parts zK;have M:∀(w:World) (a:Option Addr) (n c B E:Nat),(binOp .eql 74 (.slice a n c) (.slice none B E)).run prog w=.ok (.bool a.isNone) w:=(fun w a n c B E=>Lib.run_eql_slice_nil w _ _ a n c B E underlying74);obtain⟨p,F,rfl,N,O⟩:=h.slice;rcases jw.spot h with rfl|⟨b,o,rfl⟩
 ·have g:l.length=0:=by
   rcases Nat.eq_zero_or_pos l.length with g|g
   ·exact g
   obtain⟨_,_,e,_⟩:=jw.at h g;cases e
  have G:l=[]:=wk g;subst G;go_enter func116,ntmps116;go_wp2_with fail;go_ret;exact⟨_,rfl,ac.nil,zb _ _⟩
 have d:∀j u,(ba l)[j]?=some u->W.cell? ⟨b,o+j,none⟩=some u:=fun j u q=>by
  have t:0<l.length:=by
   rcases Nat.eq_zero_or_pos l.length with g|g
   ·rw[wk g]at q;simp[ba]at q
   exact g
  obtain⟨R,H,e,_,P⟩:=jw.at h t;cases e;exact P j u q
 have f:=gX l;have i:=mI l;obtain⟨n,t⟩:=ag l.length;rw[t]at f hl ⊢;generalize ba l=news at d f i ⊢;have A:=aa d;clear d h N t;unfold maxLen at O;go_enter func116,ntmps116;go_wp2_with (at_builtin;refine wpList_append_own _ rfl _ _ 74 rfl W.heap.size 95 J _ 4 48 underlying74 L x y z rfl (by decide) _ _ _ rfl (World.ownsRow_made W #[] 0 (zm _) (zh _) (by simp)) ⟨b,o,none⟩ n F news rfl ?qc1 ?qc2 ?qc3 ?qc4 ?qc5 ?qc6 ?_)
 case qc1=>exact f
 case qc2 =>
  intro j u q;rw[Addr.add_lit];exact Lib.cell?_alloc_some _ (A.out j u q)
 case qc3=>exact i
 case qc4=>rw[xq];unfold maxLen;omega
 case qc5=>rw[xq];omega
 case qc6=>simp
 intro s S r m I
 go_wp2
 go_ret;refine⟨s,rfl,ac.me (by simpa using r),?_⟩;exact((zb _ W).alloc (zm _) _).grown m (by simp) (by intro k Q;simp[Value.ownBlock]at Q;omega)
theorem mK(l:List ByteArray):(cellsS l).length=l.length*1:=by simp[cellsS]
theorem mL{l:List ByteArray}{v:Value}{W:World}(h:lg W v l)(hl:l.length<=1000):Calls prog 117 #[v] W fun e w'=>∃s,e=.returned s/\ac w' W.heap.size 9 1 s l.length (cellsS l)/\Below W.heap.size W w':=by
 obtain⟨J,L,x,y,z⟩:=info_parts Dk;have M:∀(w:World) (a:Option Addr) (n c B E:Nat),(binOp .eql 85 (.slice a n c) (.slice none B E)).run prog w=.ok (.bool a.isNone) w:=(fun w a n c B E=>Lib.run_eql_slice_nil w _ _ a n c B E underlying85);obtain⟨p,F,rfl,N,O⟩:=h.slice;rcases jw.spot h with rfl|⟨b,o,rfl⟩
 ·have g:l.length=0:=by
   rcases Nat.eq_zero_or_pos l.length with g|g
   ·exact g
   obtain⟨_,_,e,_⟩:=jw.at h g;cases e
  have G:l=[]:=wk g;subst G;go_enter func117,ntmps117;go_wp2_with fail;go_ret;exact⟨_,rfl,ac.nil,zb _ _⟩
 have d:∀j u,(cellsS l)[j]?=some u->W.cell? ⟨b,o+j,none⟩=some u:=fun j u q=>by
  have t:0<l.length:=by
   rcases Nat.eq_zero_or_pos l.length with g|g
   ·rw[wk g]at q;simp[cellsS]at q
   exact g
  obtain⟨R,H,e,_,P⟩:=jw.at h t;cases e;exact P j u q
 have f:=mK l;have i:=wX l;obtain⟨n,t⟩:=ag l.length;rw[t]at f hl ⊢;generalize cellsS l=news at d f i ⊢;have A:=aa d;clear d h N t;unfold maxLen at O;go_enter func117,ntmps117;go_wp2_with (at_builtin;refine wpList_append_own _ rfl _ _ 85 rfl W.heap.size 9 J _ 1 16 underlying85 L x y z rfl (by decide) _ _ _ rfl (World.ownsRow_made W #[] 0 (zm _) (zh _) (by simp)) ⟨b,o,none⟩ n F news rfl ?qc1 ?qc2 ?qc3 ?qc4 ?qc5 ?qc6 ?_)
 case qc1=>exact f
 case qc2 =>
  intro j u q;rw[Addr.add_lit];exact Lib.cell?_alloc_some _ (A.out j u q)
 case qc3=>exact i
 case qc4=>rw[xq];unfold maxLen;omega
 case qc5=>rw[xq];omega
 case qc6=>simp
 intro s S r m I
 go_wp2
 go_ret;refine⟨s,rfl,ac.me (by simpa using r),?_⟩;exact((zb _ W).alloc (zm _) _).grown m (by simp) (by intro k Q;simp[Value.ownBlock]at Q;omega)
theorem IZ:(prog.info? 124).map (fun i=>(i.zero,i.size,i.bytes))=some (some (.agg #[.slice none 0 0,.string e0]),2,40):=by kernel_rfl
theorem jr{t ty e:TypeId}{z:Value}{size bytes:Nat}(ht:prog.underlying t=some (.slice e))(hinf:(prog.info? e).map (fun i=>(i.zero,i.size,i.bytes))=some (some z,size,bytes))(hzs:z.cells.size=size)(hsz:0<size)(hby:bytes<=80)(y:World)(base:Nat){v:Value}{m:Nat}{xs:List Value}(hr:ac y base e size v m xs)(hm:m+1<=1000000)(hb:base<=y.heap.size)(cs:Array Value)(hcs:cs.size=size)(h1:∀u∈cs.toList,u.oneCell'=true):∃g a w',(Builtin.append_ #[t,t] ty #[v,.slice (some ⟨y.heap.size,0,none⟩) 1 1]).run prog (y.alloc (.cells cs e))=.ok (.slice (some ⟨g,0,none⟩) (m+1) a) w'/\ac w' base e size (.slice (some ⟨g,0,none⟩) (m+1) a) (m+1) (xs++cs.toList)/\y.grownBy w' v.ownBlock/\(v.ownBlock=some g∨y.heap.size<=g):=by
 obtain⟨o,d,f,j,k⟩:=info_parts hinf;have p:=z7 y (.cells cs e)
 have b:(m+1)*bytes<=140737488355328:=by
  have:(m+1)*bytes<=1000000*80:=Nat.mul_le_mul hm hby
  omega
 obtain⟨g,a,w',l,r,c,s⟩:=aY (P:=prog) (y.alloc (.cells cs e)) base t ty e o z size bytes ht d f j k hzs hsz (hr.later (aD y _)) ⟨y.heap.size,0,none⟩ 1 1 cs.toList (by simpa using hcs)
  (by exact World.news_of_block p) h1 (by decide) (by unfold maxLen;omega) b (by rw[zj];omega)
 exact⟨g,a,w',l,r,⟨c.os,c.tape,c.output,zw (by simp) c.size,fun q w n=>(c.block q (by simp;omega) n).trans ((aD y _).block q w)⟩,s.imp id (fun h=>by rw[zj]at h;omega)⟩
structure gq (w:World) (base:Nat) (cv dv:Value) (t:T) (ps:List Value):Prop where
 c:ac w base 95 4 cv t.cols.length (ba t.cols)
 n:ps.length=t.deps.length
 d:ac w base 124 2 dv t.deps.length (cellsD ps t.deps)
 l:∀j (h:j<ps.length) (h':j<t.deps.length),ac w base 9 1 ps[j] t.deps[j].left.length (cellsS t.deps[j].left)
theorem gq.rd{w:World}{base:Nat}{cv dv:Value}{t:T}{ps:List Value}(h:gq w base cv dv t ps):ey w cv dv t:=
 ⟨ac.BT h.c (by decide) (by decide),ps,h.n,ac.BT h.d (by decide) (by decide),fun j a b=>ac.BT (h.l j a b) (by decide) (by decide)⟩
theorem gq.later{w w':World}{base:Nat}{cv dv:Value}{t:T}{ps:List Value}(h:gq w base cv dv t ps)(hb:Below w.heap.size w w'):gq w' base cv dv t ps:=
 ⟨h.c.later hb,h.n,h.d.later hb,fun j a b=>(h.l j a b).later hb⟩
def Few(t:T):Prop:=t.cols.length<=1000/\t.deps.length<=1000/\∀d∈t.deps,d.left.length<=1000
theorem aF(W:World):Below W.heap.size W W.drew:=aG W 1
theorem ac.beside{w w':World}{base base':Nat}{e e':TypeId}{s s':Nat}{v v':Value}{n n':Nat}{xs xs':List Value}(h:ac w base e s v n xs)(hr:ac w base' e' s' v' n' xs')(hne:e≠e')(hg:w.grownBy w' v'.ownBlock):ac w' base e s v n xs:=
 h.of (fun k a=>hg.block k (h.lt k a).2 (fun c=>by
  obtain⟨_,c1,d⟩:=h.block k a;obtain⟨_,c2,b⟩:=hr.block k c.symm;rw[d]at b;cases b;exact hne rfl))
structure jo (S:Nat) (W:World) (t:T) (cv dv:Value) (w:World):Prop where
 box:w.heap[S]?=some (ax t.nm cv t.key dv)
 res:w.heap[S+1]?=some (ax e0 (.slice none 0 0) e0 (.slice none 0 0))
 c:ac w (S+2) 95 4 cv t.cols.length (ba t.cols)
 below:Below S W w
section
variable {S:Nat}{W w w':World}{t:T}{cv dv:Value}
theorem jo.sz(h:jo S W t cv dv w):S+2<=w.heap.size:=aC h.res
theorem jo.on(h:jo S W t cv dv w)(hb:Below w.heap.size w w'):jo S W t cv dv w':=
 ⟨aE hb h.box,aE hb h.res,h.c.later hb,h.below.trans (hb.mono (by have:=h.sz;omega))⟩
theorem jo.grown(h:jo S W t cv dv w){v:Value}{n:Nat}{xs:List Value}(hr:ac w (S+2) 124 2 v n xs)(hg:w.grownBy w' v.ownBlock):jo S W t cv dv w':=by
 have a:=eM (n:=S+2) hr hg (zm _) h.sz;exact⟨(a.block S (by omega)).trans h.box,(a.block (S+1) (by omega)).trans h.res,h.c.beside hr (by decide) hg,h.below.trans (a.mono (by omega))⟩
theorem jo.cells(h:jo S W t cv dv w):S<w.heap.size/\w.cell? ⟨S,0,none⟩=some (.string t.nm)/\w.cell? ⟨S,1,none⟩=some cv/\w.cell? ⟨S,2,none⟩=some (.string t.key)/\w.cell? ⟨S,3,none⟩=some dv:=
 ⟨aC h.box,aA h.box 0,aA h.box 1,aA h.box 2,aA h.box 3⟩
end
structure jz (w:World) (base:Nat) (v:Value) (ds:List D) (ps:List Value):Prop where
 n:ps.length=ds.length
 d:ac w base 124 2 v ds.length (cellsD ps ds)
 l:∀j (h:j<ps.length) (h':j<ds.length),ac w base 9 1 ps[j] ds[j].left.length (cellsS ds[j].left)
theorem jz.later{w w':World}{base:Nat}{v:Value}{ds:List D}{ps:List Value}(h:jz w base v ds ps)(hb:Below w.heap.size w w'):jz w' base v ds ps:=⟨h.n,h.d.later hb,fun j a b=>(h.l j a b).later hb⟩
theorem jz.snoc{y w':World}{base:Nat}{v v' lv:Value}{ds:List D}{ps:List Value}{d:D}(h:jz y base v ds ps)(hl:ac y base 9 1 lv d.left.length (cellsS d.left))(hr:ac w' base 124 2 v' (ds.length+1) (cellsD ps ds++[lv,.string d.right]))(hg:y.grownBy w' v.ownBlock):jz w' base v' (ds++[d]) (ps++[lv]):=by
 refine⟨by simp[h.n],?_,fun j a b=>?_⟩
 ·rw[gU _ _ _ _ h.n,y8];exact hr
 by_cases e:j<ps.length
 ·have c:j<ds.length:=(by rw[<-h.n];exact e);simp only[xc e,xc c];exact(h.l j e c).beside h.d (by decide) hg
 have f:j=ps.length:=(by simp at a;omega);have g:j=ds.length:=(by rw[<-h.n];exact f);have i:(ps++[lv])[j]=lv:=(by subst f;simp);have k:(ds++[d])[j]=d:=(by subst g;simp);rw[i,k];exact hl.beside h.d (by decide) hg
theorem jz.nil(w:World)(base:Nat):jz w base (.slice none 0 0) [] []:=⟨rfl,ac.nil,fun j h=>absurd h (yo j)⟩
theorem kY{S:Nat}{W w1 y:World}{t:T}{cv dv v lv:Value}{ds:List D}{ps:List Value}{d:D}(hI:jo S W t cv dv w1)(hD:jz w1 (S+2) v ds ps)(hb:Below w1.heap.size w1 y)(hl:ac y w1.heap.size 9 1 lv d.left.length (cellsS d.left))(hn:ds.length<=1000):∃g a e,(Builtin.append_ #[75,75] 75 #[v,.slice (some ⟨y.heap.size,0,none⟩) 1 1]).run prog (y.alloc (.cells #[lv,.string d.right] 124))=.ok (.slice (some ⟨g,0,none⟩) (ds.length+1) a) e/\jo S W t cv dv e/\jz e (S+2) (.slice (some ⟨g,0,none⟩) (ds.length+1) a) (ds++[d]) (ps++[lv]):=by
 have f:=hI.on hb;have b:=hD.later hb;obtain⟨p,c,h,_,_⟩:=hl.isslice
 obtain⟨g,a,e,k,l,i,m⟩:=jr (ty:=75) underlying75 IZ (by kernel_rfl) (by decide) (by decide) y (S+2) b.d (by omega) f.sz #[lv,.string d.right] rfl (by
  intro u j;simp only[wg,vz,or_false]at j;rcases j with rfl|rfl
  ·rw[h];rfl
  rfl)
 exact⟨g,a,e,k,f.grown b.d i,b.snoc (hl.mono hI.sz) l i⟩
theorem gq.of{w w':World}{base:Nat}{cv dv:Value}{t:T}{ps:List Value}(h:gq w base cv dv t ps)(hk:∀q:Nat,base<=q->w'.heap[q]?=w.heap[q]?):gq w' base cv dv t ps:=
 ⟨h.c.of (fun k e=>hk k (h.c.lt k e).1),h.n,h.d.of (fun k e=>hk k (h.d.lt k e).1),fun j a b=>(h.l j a b).of (fun k e=>hk k ((h.l j a b).lt k e).1)⟩
theorem cG(x:World)(b q:Nat)(h:q≠b)(a c d e:Value):((((x.setCell ⟨b,0,none⟩ a).setCell ⟨b,1,none⟩ c).setCell ⟨b,2,none⟩ d).setCell ⟨b,3,none⟩ e).heap[q]?=x.heap[q]?:=by
 have f:∀(y:World) (i:Nat) (u:Value),(y.setCell ⟨b,i,none⟩ u).heap[q]?=y.heap[q]?:=(fun y i u=>yd y ⟨b,i,none⟩ q u h);rw[f,f,f,f]
theorem mM{t:T}{cv dv:Value}{W:World}(h:ey W cv dv t)(hf:Few t):Calls prog 97 #[.agg #[.string t.nm,cv,.string t.key,dv]] W fun e w'=>∃p1 c1 p2 c2 ps,e=.returned (.agg #[.string t.nm,.slice p1 t.cols.length c1,.string t.key,.slice p2 t.deps.length c2])/\gq w' (W.heap.size+2) (.slice p1 t.cols.length c1) (.slice p2 t.deps.length c2) t ps/\Below W.heap.size W w':=by
 obtain⟨pc,cc,a3,c4,c5⟩:=h.1.slice;obtain⟨p,Q,a4,b2,b3⟩:=h.2.slice;obtain⟨n,hn⟩:=ag t.cols.length;obtain⟨nd,a5⟩:=ag t.deps.length;obtain⟨S,hS⟩:=ag W.heap.size;have R:=aD W (ax t.nm cv t.key dv);have r:=R.alloc R.size (ax e0 (.slice none 0 0) e0 (.slice none 0 0));have U:=dH (u:=ax e0 (.slice none 0 0) e0 (.slice none 0 0)) (z7 W (ax t.nm cv t.key dv));have k1:=z7 (W.alloc (ax t.nm cv t.key dv)) (ax e0 (.slice none 0 0) e0 (.slice none 0 0));rw[hS]at U;rw[zj,hS]at k1;have A:=mJ (h.1.later r) hf.1;have B:((W.alloc (ax t.nm cv t.key dv)).alloc (ax e0 (.slice none 0 0) e0 (.slice none 0 0))).heap.size=S+2:=(by rw[zj,zj,hS]);obtain⟨w0,V⟩:=ag ((W.alloc (ax t.nm cv t.key dv)).alloc (ax e0 (.slice none 0 0) e0 (.slice none 0 0)));rw[V]at U k1 r A B;rw[B,hn]at A;rw[hS]at r;rw[a5]at a4 b2;rw[hn]at a3;unfold maxLen at b3;have HW:=aa V;have HS:=aa hS;have HB:=aa (ab U (ab k1 (ab r B)));have X:=aa (ab hn a5);have HR:=aa (ab h.2 hf.2);have z1:=aA U 1;have zf:=zo w0 S 1 _ _ U;have zl:=aC U;subst a3 a4;clear h hf V hS U k1 R r B;go_enter func97,ntmps97;go_upto_region 1 with fail;rw[HW.out,HS.out];go_upto_region 2 with (go_at_call 116;(with_reducible refine A.mono ?_);rintro e M⟨v',rfl,hr,hb⟩;obtain⟨pv,o,rfl,_,_⟩:=ac.isslice hr;have x:=(hb.block S (by omega)).trans HB.1;have z1:=aA x 1;have zf:=zo M S 1 _ _ x;have zl:=aC x;have H1:=aa (ab hr (ab hb x));clear hr hb x)
 have hI:jo S W t (.slice pv n o) (.slice p nd Q) (M.setCell ⟨S,1,none⟩ (.slice pv n o)):=by
  have a6:∀(q:Nat),q≠S->(M.setCell ⟨S,1,none⟩ (.slice pv n o)).heap[q]?=M.heap[q]?:=(fun q h=>yd M ⟨S,1,none⟩ q _ h);refine⟨y9 _ S 1 _ _ _ H1.2.2,(a6 _ (by omega)).trans ((H1.2.1.block (S+1) (by omega)).trans HB.2.1),?_,?_⟩
  ·rw[X.1];exact H1.1.of (fun k hk=>a6 k (by have:=(H1.1.lt k hk).1;omega))
  exact(HB.2.2.1.trans (H1.2.1.mono (by omega))).setCell (p:=⟨S,1,none⟩) (zm _) _
 obtain⟨y2,a7⟩:=ag (M.setCell ⟨S,1,none⟩ (.slice pv n o));rw[a7]at hI ⊢;clear a7 H1 A;have c3:=hI.cells.2.2.2.2;have HI:=aa hI;clear hI;have Y:∀a w,(callFunc 117 a).run prog w=.ok (.enter 117 a) w:=(by intro a w;rfl);go_wp2_with fail;clear c3;go_loopg [3,13] (nd+1) (fun gh v jv w=>∃(j:Nat) (ps:List Value),jv=.int .i64 (j:Int)/\j<=nd/\nd+1<=j+gh/\jo S W t (.slice pv n o) (.slice p nd Q) w/\jz w (S+2) v (t.deps.take j) ps)
 case atStart=>exact⟨0,[],rfl,zh _,by omega,HI.out,jz.nil _ _⟩
 obtain⟨j,ps,rfl,hj,hg,Z,hD⟩:=hrel;have s:(t.deps.take j).length=j:=(by rw[we,X.2];omega);have b4:=HR.2.1;rw[X.2]at b4;obtain⟨pd,cd,hv,_,_⟩:=ac.isslice hD.d;rw[s]at hv;subst hv;by_cases b5:j<nd
 ·have a8:j<t.deps.length:=(by rw[X.2];exact b5);have N:pz wr (.slice p nd Q) t.deps:=HR.1.later (Z.below.mono (xy HS.out));obtain⟨b,c6,lv,rfl,hb,c0,c1,E⟩:=pz.dep N a8;obtain⟨d,F⟩:=ag (t.deps[j]);have y:t.deps.take (j+1)=t.deps.take j++[d]:=(by rw[yp a8,F]);have a9:d.left.length<=1000:=HR.2.2 d (by rw[<-F];exact z8 _);rw[F]at c1 E;obtain⟨pl,cl,rfl,_,_⟩:=E.slice;have O:=z7 wr (.cells #[.slice pl d.left.length cl,.string d.right] 124);have G:=aD wr (.cells #[.slice pl d.left.length cl,.string d.right] 124);have H:=mL ((E.later G).later (aF _)) a9;have I:=aa (ab ((Z.on G).on (aF _)) (ab ((hD.later G).later (aF _)) (ab (aE (aF _) O) y)));have HL:=aa s;clear F N E a9 Z hD O G s y;go_upto_region 6 with fail;obtain⟨nl,a0⟩:=ag d.left.length;obtain⟨w1,J⟩:=ag (wr.alloc (.cells #[.slice pl d.left.length cl,.string d.right] 124));obtain⟨S1,a1⟩:=ag wr.heap.size;rw[J,a1]at I;rw[J]at H;rw[J,a1];clear J a1 c0 c1 hb;rw[a0]at H I ⊢;have b6:=aa a0;clear a0;have x0:=aA I.2.2.1 0;have x1:=aA I.2.2.1 1;have xl:=aC I.2.2.1
  go_region_law (first|(refine cA Y [.slice pl nl cl] (by simp[Act.eval]) ?_;(with_reducible refine Calls.mono H ?_);rintro e y2⟨c7,rfl,a2,r⟩;obtain⟨c8,d0,rfl,_,_⟩:=ac.isslice a2;have q2:=aE r I.2.2.1;have q0:=aA q2 1;have ql:=aC q2;obtain⟨g,b9,w3,P,I3,D3⟩:=kY (d:=d) I.1 I.2.1 r (by rw[b6.out];exact a2) (by rw[HL.out];omega);rw[HL.out]at P D3;have H3:=aa (ab I3 D3);clear I3 D3 a2 r q2 H;refine⟨_,rfl,?_⟩)|refine bJ rfl (.tmp 17) (.tmp 24) 75 rfl rfl rfl P ?_)
  all_goals
   go_wp2_with fail;go_roundg (nd-j)
   case measure=>omega
   case rel=>exact⟨j+1,_,by go_num,by omega,by omega,H3.1,by rw[I.2.2.2];exact H3.2⟩
 obtain rfl:j=nd:=(by omega);have y:t.deps.take j=t.deps:=yy (by rw[X.2];exact zm _);rw[y]at hD;have f:=Z.box;have m:=Z.res;have z0:=aA f 0;have z1:=aA f 1;have z2:=aA f 2;have z3:=aA f 3;have zf:=(fun i=>zo wr S i _ _ f);have zl:=aC f;have r0:=aA m 0;have r1:=aA m 1;have r2:=aA m 2;have r3:=aA m 3;have rf:=(fun i=>zo wr (S+1) i _ _ m);have rl:=aC m;have HK:=aa (ab Z hD);clear Z hD f m y s;go_wp2_with fail;obtain⟨wa,L⟩:=ag (wr.setCell ⟨S,3,none⟩ (.slice pd j cd));have ha:∀q:Nat,q≠S->wa.heap[q]?=wr.heap[q]?:=(fun q h=>by rw[<-L];exact yd wr ⟨S,3,none⟩ q _ h);have b7:Below S W wa:=(by rw[<-L];exact HK.1.below.setCell (p:=⟨S,3,none⟩) (zm _) _);have b8:=(ha (S+1) (by omega)).trans HK.1.res;rw[L];clear L;have z:=mj b8 (.string t.nm) (.slice pv n o) (.string t.key) (.slice pd j cd);have b0:=bD b7 (show S<=S+1 by omega) (.string t.nm) (.slice pv n o) (.string t.key) (.slice pd j cd);have hO:=cG wa (S+1);have ho:∀q:Nat,S+2<=q->((((wa.setCell ⟨S+1,0,none⟩ (.string t.nm)).setCell ⟨S+1,1,none⟩ (.slice pv n o)).setCell ⟨S+1,2,none⟩ (.string t.key)).setCell ⟨S+1,3,none⟩ (.slice pd j cd)).heap[q]?=wr.heap[q]?:=(fun q h=>(hO q (by omega) _ _ _ _).trans (ha q (by omega)));generalize (((wa.setCell _ _).setCell _ _).setCell _ _).setCell _ _=wz at z b0 ho ⊢;have y0:=aA z 0;have M:=aA z 1;have y2:=aA z 2;have y3:=aA z 3;refine ya (v:=.agg #[.string t.nm,(.slice pv n o),.string t.key,(.slice pd j cd)]) (by simp[results,results97,go_sem,y0,M,y2,y3]) rfl ?_;rw[X.1,X.2,HS.out];have b1:gq wr (S+2) (.slice pv n o) (.slice pd j cd) t ps:=⟨HK.1.c,HK.2.n,HK.2.d,HK.2.l⟩;exact⟨_,_,_,_,ps,rfl,b1.of ho,b0⟩
def de(key:ByteArray)(l:List C)(j:Nat):List C:=(l.take j).map (mq key)++l.drop j
theorem cB(key:ByteArray)(l:List C)(j:Nat):(de key l j).length=l.length:=by
 unfold de;simp;omega
theorem dV(key:ByteArray)(l:List C)(j:Nat)(hj:j<=l.length)(i:Nat):(de key l j)[i]?=(l[i]?).map (fun c=>if i<j then mq key c else c):=by
 unfold de;by_cases h:i<j
 ·rw[wf (by simp;omega),xm,List.getElem?_take,zv h];simp[h]
 rw[ye (by simp;omega),List.getElem?_drop];simp only[yh,we,Nat.min_eq_left hj,h,if_false];rw[show j+(i-j)=i by omega]
 simp
theorem mN(key:ByteArray)(l:List C):de key l 0=l:=by simp[de]
theorem pE(key:ByteArray)(l:List C):de key l l.length=l.map (mq key):=by simp[de]
theorem Ej{key:ByteArray}{c:C}(h:it c.nm key=false):mq key c=c:=by unfold mq;rw[h];simp
theorem FX{key:ByteArray}{c:C}(h:it c.nm key=true):mq key c={ c with mu:=true }:=by unfold mq;rw[h];simp
theorem mO{key:ByteArray}{l:List C}{j:Nat}(hj:j<l.length)(h:it l[j].nm key=false):de key l (j+1)=de key l j:=by
 apply ug;intro i;rw[dV _ _ _ (by omega),dV _ _ _ (by omega)];by_cases e:i=j
 ·subst e;rw[z6 hj];simp[Ej h]
 congr 1
 funext c
 by_cases a:i<j
 ·rw[zv a,zv (by omega)]
 rw[zq a,zq (by omega)]
theorem mP{key:ByteArray}{l:List C}{j:Nat}(hj:j<l.length)(h:it l[j].nm key=true):de key l (j+1)=(de key l j).set j { l[j]with mu:=true }:=by
 apply ug;intro i;rw[dV _ _ _ (by omega),List.getElem?_set,dV _ _ _ (by omega)];by_cases e:j=i
 ·subst e;rw[zv rfl,zv (by rw[cB];exact hj),z6 hj];simp[FX h]
 rw[zq e]
 congr 1
 funext c
 by_cases a:i<j
 ·rw[zv a,zv (by omega)]
 rw[zq a,zq (by omega)]
theorem kZ(l:List C)(j:Nat)(hj:j<l.length):(ba l).set (j*4+2) (.bool true)=ba (l.set j { l[j]with mu:=true }):=by
 induction l generalizing j with
 | nil=>simp at hj
 | cons c r ih =>
  cases j with
  | zero=>simp[bO]
  | succ j =>
   have:=ih j (by simpa using hj)
   rw[bO,show(j+1)*4+2=j*4+2+1+1+1+1 by omega];simp only[bu,List.getElem_cons_succ,bO,this]
structure j' (S:Nat) (W:World) (base:Nat) (t:T) (cv dv:Value) (ps:List Value) (j:Nat) (w:World):Prop where
 box:w.heap[S]?=some (ax t.nm cv t.key dv)
 res:w.heap[S+1]?=some (ax e0 (.slice none 0 0) e0 (.slice none 0 0))
 own:gq w base cv dv { t with cols:=de t.key t.cols j } ps
 chg:Chg (fun b=>cv.ownBlock=some b) W w
 lt:∀b,cv.ownBlock=some b->b<S
section
variable {S base:Nat}{W w:World}{t:T}{cv dv:Value}{ps:List Value}{j:Nat}
theorem j'.cells(h:j' S W base t cv dv ps j w):S<w.heap.size/\w.cell? ⟨S,1,none⟩=some cv/\w.cell? ⟨S,2,none⟩=some (.string t.key):=
 ⟨aC h.box,aA h.box 1,aA h.box 2⟩
theorem j'.drew(h:j' S W base t cv dv ps j w):j' S W base t cv dv ps j w.drew:=
 ⟨h.box,h.res,h.own.later (aF w),h.chg.drew,h.lt⟩
theorem j'.skip(h:j' S W base t cv dv ps j w)(hj:j<t.cols.length)(he:it t.cols[j].nm t.key=false):j' S W base t cv dv ps (j+1) w:=
 ⟨h.box,h.res,by rw[mO hj he];exact h.own,h.chg,h.lt⟩
theorem gq.cset{w:World}{g cap n:Nat}(h:gq w base (.slice (some ⟨g,0,none⟩) n cap) dv t ps)(hn:t.cols.length=n)(hj:j<t.cols.length):gq (w.setCell ⟨g,j*4+2,none⟩ (.bool true)) base (.slice (some ⟨g,0,none⟩) n cap) dv { t with cols:=t.cols.set j { t.cols[j]with mu:=true } } ps:=by
 have e:=h.c;rw[hn]at e;obtain⟨f,i⟩:=ac.stored e (j*4+2) (.bool true);rw[kZ _ _ hj]at f;refine⟨?_,h.n,h.d.beside e (by decide) i,fun a b c=>(h.l a b c).beside e (by decide) i⟩;show ac _ base 95 4 _ (t.cols.set j _).length (ba (t.cols.set j _));rw[u7,hn];exact f
theorem j'.take{g cap n:Nat}(h:j' S W base t (.slice (some ⟨g,0,none⟩) n cap) dv ps j w)(hn:t.cols.length=n)(hj:j<t.cols.length)(he:it t.cols[j].nm t.key=true):j' S W base t (.slice (some ⟨g,0,none⟩) n cap) dv ps (j+1) (w.setCell ⟨g,j*4+2,none⟩ (.bool true)):=by
 have d:=h.lt g rfl;have a:j<(de t.key t.cols j).length:=by rw[cB];exact hj
 have c:(de t.key t.cols j)[j]=t.cols[j]:=by
  have:=dV t.key t.cols j (by omega) j
  rw[z6 a,z6 hj]at this;simpa using this
 have b:=h.own.cset (j:=j) (by show(de t.key t.cols j).length=n;rw[cB];exact hn) a;have b:gq (w.setCell ⟨g,j*4+2,none⟩ (.bool true)) base (.slice (some ⟨g,0,none⟩) n cap) dv { t with cols:=(de t.key t.cols j).set j { (de t.key t.cols j)[j]with mu:=true } } ps:=b;rw[c,<-mP hj he]at b;exact⟨(yd w ⟨g,_,none⟩ S _ (by show S≠g;omega)).trans h.box,(yd w ⟨g,_,none⟩ (S+1) _ (by show S+1≠g;omega)).trans h.res,b,h.chg.setCell (p:=⟨g,j*4+2,none⟩) (fun _=>rfl) _,h.lt⟩
theorem j'.col{g cap n:Nat}(h:j' S W base t (.slice (some ⟨g,0,none⟩) n cap) dv ps j w)(hn:t.cols.length=n)(hj:j<t.cols.length):g<w.heap.size/\w.cell? ⟨g,j*4,none⟩=some (.string t.cols[j].nm)/\(∃b,w.cell? ⟨g,j*4+2,none⟩=some (.bool b))/\w.frozen? ⟨g,j*4+2,none⟩=false:=by
 have a:=h.own.c;have f:(de t.key t.cols j).length=n:=(by rw[cB];exact hn);have d:j<(de t.key t.cols j).length:=by rw[cB];exact hj
 have e:(de t.key t.cols j)[j]=t.cols[j]:=by
  have:=dV t.key t.cols j (by omega) j
  rw[z6 d,z6 hj]at this;simpa using this
 have a:ac w base 95 4 (.slice (some ⟨g,0,none⟩) n cap) (de t.key t.cols j).length (ba (de t.key t.cols j)):=a;obtain⟨c0,_,c2,_⟩:=jV (de t.key t.cols j) j d;rw[f]at a;rw[e]at c0;exact⟨(a.lt g rfl).2,a.cell c0,⟨_,a.cell c2⟩,a.frozenAt _⟩
end
theorem fu.lit{w:World}{b:Nat}{l:List C}(h:w.heap[b]?=some (.cells (ba l).toArray 95))(hl:l.length<=maxLen):fu w (.slice (some ⟨b,0,none⟩) l.length l.length) l:=
 ⟨gX l,_,_,rfl,zm _,hl,fun a e=>by cases e;rfl,fun _=>⟨b,0,_,_,_,rfl,h,by decide,by decide,fun j u c=>by rw[xq,List.getElem?_toArray];exact c⟩⟩
theorem pz.none(w:World):pz w (.slice none 0 0) []:=(sT w).2
theorem fu.AU{W:World}{b off n cap:Nat}{l:List C}(h:fu W (.slice (some ⟨b,off,none⟩) n cap) l){i:Nat}(hi:i<l.length):b<W.heap.size/\W.cell? ⟨b,off+i*4,none⟩=some (.string l[i].nm)/\W.cell? ⟨b,off+i*4+1,none⟩=some (.int .i64 l[i].kd)/\W.cell? ⟨b,off+i*4+2,none⟩=some (.bool l[i].mu)/\W.cell? ⟨b,off+i*4+3,none⟩=some (.string l[i].tgt):=by
 obtain⟨_,_,e,a⟩:=fu.col h hi;cases e;exact a
theorem lg.Aq{W:World}{b off n cap:Nat}{l:List ByteArray}(h:lg W (.slice (some ⟨b,off,none⟩) n cap) l){i:Nat}(hi:i<l.length):b<W.heap.size/\W.cell? ⟨b,off+i,none⟩=some (.string l[i]):=by
 obtain⟨_,_,e,a⟩:=lg.word h hi;cases e;exact a
theorem wY{l:List C}{x:ByteArray}(j:Nat)(h:j<l.length)(hp:ns x l[j]=true)(hn:∀i (hi:i<j),ns x (l[i]'(by omega))=false):gx l x=(j:Int):=by
 obtain⟨_,_,a⟩:=eN (p:=ns x) l j h hp hn;unfold gx;rw[a]
theorem mQ{l:List C}{x:ByteArray}(hn:∀i (hi:i<l.length),ns x l[i]=false):gx l x=-1:=by
 obtain⟨_,_,a⟩:=iZ (p:=ns x) l hn;unfold gx;rw[a]
theorem bU{t:T}{cv dv:Value}{x:ByteArray}{W:World}(h:ey W cv dv t):Calls prog 78 #[.agg #[.string t.nm,cv,.string t.key,dv],.string x] W fun e w'=>e=.returned (.int .i64 (gx t.cols x))/\Below W.heap.size W w':=by
 have k:=aa (fm.new h);obtain⟨pc,L,o,M,N⟩:=h.c.slice;obtain⟨p,v,q,_,_⟩:=h.d.slice;obtain⟨n,y⟩:=ag t.cols.length;obtain⟨nd,r⟩:=ag t.deps.length;obtain⟨B,z⟩:=ag W.heap.size;unfold maxLen at N;rw[r]at q;rw[y]at o M;subst o q;have A:=aa y;rw[z]at k;have a:=aa z;clear h y r z;go_enter func78,ntmps78;go_upto_region 1 with fail;obtain⟨w0,f⟩:=ag (W.alloc (ax t.nm (.slice pc n L) t.key (.slice p nd v)));rw[a.out,f];rw[f]at k;clear f;obtain⟨I,_,S,_,_⟩:=k.out.cells;go_wp2_with fail;go_loopg [5] (n+1) (fun O P w=>∃(j:Nat),P=.int .i64 (j:Int)/\j<=n/\n+1<=j+O/\(∀i (h:i<t.cols.length),i<j->ns x t.cols[i]=false)/\w=w0)
 case atStart=>exact⟨0,rfl,zh _,by omega,fun i _ l=>by omega,rfl⟩
 obtain⟨j,rfl,U,V,s,rfl⟩:=hrel;have E:=aa s;clear s;by_cases u:j<n
 ·have F:j<t.cols.length:=(by rw[A.out];exact u);obtain⟨b,Q,rfl,X,c0,_⟩:=fu.col k.out.tab.c F;obtain⟨c,g⟩:=ag (t.cols[j]);rw[g]at c0;have J:=aa g;clear g;cases m:ns x c
  ·have G:=aa m;have H:(c.nm.toList==x.toList)=false:=(by rw[aR];exact m);clear m;go_wp2_with fail;go_roundg (n-j)
   case measure=>omega
   refine⟨j+1,by go_num,by omega,by omega,fun i l R=>?_,rfl⟩;by_cases e:i=j
   ·subst e;rw[J.out];exact G.out
   exact E.out i l (by omega)
  have G:=aa m;have H:(c.nm.toList==x.toList)=true:=(by rw[aR];exact m);clear m;go_wp2_with fail;go_ret;exact⟨aQ (wY j (by rw[A.out];exact u) (by rw[J.out];exact G.out) (fun i l=>E.out i _ l)).symm,a.out▸k.out.below⟩
 go_wp2_with fail;go_ret;exact⟨aQ (mQ (fun i l=>E.out i l (by have:=A.out;omega))).symm,a.out▸k.out.below⟩
structure qz (B:Nat) (W0:World) (S0:Nat) (t:T) (cv dv v:Value) (ts:List T) (w:World):Prop where
 tb:fm B W0 S0 t cv dv w
 ts:iu w v ts
theorem qz.on{B:Nat}{W0:World}{S0:Nat}{t:T}{cv dv v:Value}{ts:List T}{w w':World}(h:qz B W0 S0 t cv dv v ts w)(hb:Below w.heap.size w w'):qz B W0 S0 t cv dv v ts w':=⟨h.tb.on hb,h.ts.later hb⟩
section
variable {S:Nat}{W w w':World}{ts ts':List T}
end
section
variable {S:Nat}{W w w':World}{ts us ts':List T}{v:Value}{xs:List Value}
end
structure je (S:Nat) (W:World) (t:T) (cv dv:Value) (j:Nat) (w:World):Prop where
 box:w.heap[S]?=some (ax t.nm cv t.key dv)
 res:w.heap[S+1]?=some (ax e0 (.slice none 0 0) e0 (.slice none 0 0))
 c:ac w (S+2) 95 4 cv t.cols.length (ba (de t.key t.cols j))
 below:Below S W w
section
variable {S:Nat}{W w w':World}{t:T}{cv dv:Value}{j:Nat}
theorem je.sz(h:je S W t cv dv j w):S+2<=w.heap.size:=aC h.res
theorem je.on(h:je S W t cv dv j w)(hb:Below w.heap.size w w'):je S W t cv dv j w':=
 ⟨aE hb h.box,aE hb h.res,h.c.later hb,h.below.trans (hb.mono (by have:=h.sz;omega))⟩
theorem je.cells(h:je S W t cv dv j w):S<w.heap.size/\w.cell? ⟨S,0,none⟩=some (.string t.nm)/\w.cell? ⟨S,1,none⟩=some cv/\w.cell? ⟨S,2,none⟩=some (.string t.key)/\w.cell? ⟨S,3,none⟩=some dv:=
 ⟨aC h.box,aA h.box 0,aA h.box 1,aA h.box 2,aA h.box 3⟩
theorem je.skip(h:je S W t cv dv j w)(hj:j<t.cols.length)(he:it t.cols[j].nm t.key=false):je S W t cv dv (j+1) w:=
 ⟨h.box,h.res,by rw[mO hj he];exact h.c,h.below⟩
theorem pF(key:ByteArray)(l:List C)(j:Nat)(hj:j<l.length)(h:j<(de key l j).length):(de key l j)[j]=l[j]:=by
 have:=dV key l j (by omega) j
 rw[z6 h,z6 hj]at this;simpa using this
theorem je.take{g cap n:Nat}(h:je S W t (.slice (some ⟨g,0,none⟩) n cap) dv j w)(hn:t.cols.length=n)(hj:j<t.cols.length)(he:it t.cols[j].nm t.key=true):je S W t (.slice (some ⟨g,0,none⟩) n cap) dv (j+1) (w.setCell ⟨g,j*4+2,none⟩ (.bool true)):=by
 have b:=h.c;rw[hn]at b;have e:=(b.lt g rfl).1;have a:j<(de t.key t.cols j).length:=(by rw[cB];exact hj);obtain⟨d,f⟩:=ac.stored b (j*4+2) (.bool true);rw[kZ _ _ a,pF _ _ _ hj a,<-mP hj he]at d;exact⟨(yd w ⟨g,_,none⟩ S _ (by show S≠g;omega)).trans h.box,(yd w ⟨g,_,none⟩ (S+1) _ (by show S+1≠g;omega)).trans h.res,by rw[hn];exact d,h.below.setCell (p:=⟨g,j*4+2,none⟩) (by show S<=g;omega) _⟩
theorem je.col{g cap n:Nat}(h:je S W t (.slice (some ⟨g,0,none⟩) n cap) dv j w)(hn:t.cols.length=n)(hj:j<t.cols.length):g<w.heap.size/\w.cell? ⟨g,j*4,none⟩=some (.string t.cols[j].nm)/\(∃b,w.cell? ⟨g,j*4+2,none⟩=some (.bool b))/\w.frozen? ⟨g,j*4+2,none⟩=false:=by
 have a:=h.c;rw[hn]at a;have d:j<(de t.key t.cols j).length:=(by rw[cB];exact hj);obtain⟨c0,_,c2,_⟩:=jV (de t.key t.cols j) j d;rw[pF _ _ _ hj d]at c0;exact⟨(a.lt g rfl).2,a.cell c0,⟨_,a.cell c2⟩,a.frozenAt _⟩
end
theorem Le{y:World}{base:Nat}{v:Value}{l:List C}(h:fu y v l)(hl:l.length<=1000)(hb:base<=y.heap.size)(h0:0<l.length):∃g a w',(Builtin.append_ #[74,74] 74 #[.slice none 0 0,v]).run prog y=.ok (.slice (some ⟨g,0,none⟩) l.length a) w'/\ac w' base 95 4 (.slice (some ⟨g,0,none⟩) l.length a) l.length (ba l)/\Below y.heap.size y w':=by
 obtain⟨p,a,rfl,_,_⟩:=h.slice;obtain⟨b,f,rfl,o,c⟩:=jw.at h h0;obtain⟨r,i,k,m,n⟩:=info_parts zK
 obtain⟨g,d,w',s,t,e,A⟩:=aY (P:=prog) y y.heap.size 74 74 95 r _ 4 48 underlying74 i k m n rfl (by decide) (ac.nil (w:=y) (base:=y.heap.size)) ⟨b,f,none⟩ l.length a (ba l) (gX l) (fun j u x=>by
  rw[Addr.add_lit];exact c j u x) (mI l) h0 (by unfold maxLen;omega) (by omega) (zm _)
 rw[xq,uh]at *;exact⟨g,d,w',s,t.mono hb,e.os,e.tape,e.output,e.size,fun q z=>e.block q z (by simp[Value.ownBlock])⟩
theorem pG{t:T}{cv dv:Value}{W:World}(h:ey W cv dv t)(hf:t.cols.length<=1000)(h0:0<t.cols.length):Calls prog 68 #[.agg #[.string t.nm,cv,.string t.key,dv]] W fun e w'=>∃p1 c1,e=.returned (.agg #[.string t.nm,.slice p1 t.cols.length c1,.string t.key,dv])/\ey w' (.slice p1 t.cols.length c1) dv (bh t)/\Below W.heap.size W w':=by
 obtain⟨pc,cc,R,a5,U⟩:=h.c.slice;obtain⟨p,o,V,a1,a2⟩:=h.d.slice;obtain⟨n,X⟩:=ag t.cols.length;obtain⟨nd,B⟩:=ag t.deps.length;obtain⟨S,E⟩:=ag W.heap.size;have F:=aD W (ax t.nm cv t.key dv);have r:=F.alloc F.size (ax e0 (.slice none 0 0) e0 (.slice none 0 0));have O:=dH (u:=ax e0 (.slice none 0 0) e0 (.slice none 0 0)) (z7 W (ax t.nm cv t.key dv));have k1:=z7 (W.alloc (ax t.nm cv t.key dv)) (ax e0 (.slice none 0 0) e0 (.slice none 0 0));have G:=Le (base:=S+2) (h.later r).c hf (by rw[zj,zj,E];exact zm _) h0;rw[E]at O;rw[zj,E]at k1;have H:((W.alloc (ax t.nm cv t.key dv)).alloc (ax e0 (.slice none 0 0) e0 (.slice none 0 0))).heap.size=S+2:=(by rw[zj,zj,E]);obtain⟨w0,I⟩:=ag ((W.alloc (ax t.nm cv t.key dv)).alloc (ax e0 (.slice none 0 0) e0 (.slice none 0 0)));rw[I]at O k1 r G H;rw[H,X]at G;rw[E]at r;rw[B]at V a1;rw[X]at R h0 hf;unfold maxLen at a2;obtain⟨g,c1,J,y,hr,hb⟩:=G;have s:=(hb.block S (by omega)).trans O;have Y:=(hb.block (S+1) (by omega)).trans k1
 have hI:je S W t (.slice (some ⟨g,0,none⟩) n c1) dv 0 (J.setCell ⟨S,1,none⟩ (.slice (some ⟨g,0,none⟩) n c1)):=by
  have Z:∀(q:Nat),q≠S->(J.setCell ⟨S,1,none⟩ (.slice (some ⟨g,0,none⟩) n c1)).heap[q]?=J.heap[q]?:=(fun q h=>yd J ⟨S,1,none⟩ q _ h);refine⟨y9 J S 1 _ _ _ s,(Z _ (by omega)).trans Y,?_,(r.trans (hb.mono (by omega))).setCell (p:=⟨S,1,none⟩) (zm _) _⟩;rw[X,mN];exact hr.of (fun k hk=>Z k (by have:=(hr.lt k hk).1;omega))
 have HI:=aa hI;have HW:=aa I;have HS:=aa E;have z:=aa (ab X (ab B h.d));have z1:=aA O 1;have zl:=aC O;have y1:=aA s 1;have yf:=zo J S 1 _ _ s;have yl:=aC s;subst R V;clear h I E O k1 F r H hr hb s Y hI X B;go_enter func68,ntmps68;go_upto_region 1 with fail;rw[HW.out,HS.out];go_upto_region 2 with (at_builtin;refine aK rfl (.const (.slice none 0 0)) (.tmp 5) 74 rfl rfl rfl y ?_);obtain⟨y2,a0⟩:=ag (J.setCell ⟨S,1,none⟩ (.slice (some ⟨g,0,none⟩) n c1));rw[a0]at HI ⊢;clear a0 y1 yf yl z1 zl y;go_wp2_with fail;go_loopg [3] (n+1) (fun gh jv w=>∃(j:Nat),jv=.int .i64 (j:Int)/\j<=n/\n+1<=j+gh/\je S W t (.slice (some ⟨g,0,none⟩) n c1) (.slice p nd o) j w)
 case atStart=>exact⟨0,rfl,zh _,by omega,HI.out⟩
 obtain⟨j,rfl,hj,hg,A⟩:=hrel;obtain⟨zl,_,z1,z2,_⟩:=A.cells;by_cases a3:j<n
 ·have L:j<t.cols.length:=(by rw[z.1];exact a3);obtain⟨gl,g0,⟨b,g2⟩,gf⟩:=A.col z.1 L;have P:=aa A;have a6:(j:Int)<(n:Int):=(by omega);clear A;obtain⟨c,M⟩:=ag (t.cols[j]);rw[M]at g0;have HC:=aa M;clear M;go_upto_region 5 with fail;cases Q:it c.nm t.key
  ·have HX:=aa Q;have a4:(c.nm.toList==t.key.toList)=false:=(by rw[aR];exact Q);clear Q;refine Par.ae 9 [.pointer (some ⟨S,1,none⟩),.slice (some ⟨g,0,none⟩) n c1,.int .i64 (j:Int),.pointer (some ⟨g,j*4,none⟩),.pointer (some ⟨g,j*4,none⟩),.string (c.nm),.pointer (some ⟨S,2,none⟩),.string (t.key),.bool false] (fun w=>w=wr.drew) ?A1 ?hm1 ?hB1 ?hA1 (rfl) ?hop1 ?hT1
   case hm1=>kernel_rfl
   case hB1=>kernel_rfl
   case hA1 =>
    simp only[Par.am,Par.ai,Act.put,cy,db,bt,cp,dc,da,bu,eg,ed];rfl
   case hop1 =>
    simp only[ce,ze,Par.ah,yu];and_intros<;>intro w' a
    ·have f:=aa a;obtain rfl:=a;simp only[Par.Gives];go_simp;all_goals exact f.out
    ·have f:=aa a;obtain rfl:=a;simp only[Par.Gives];go_simp;all_goals exact f.out
    ·have f:=aa a;obtain rfl:=a;simp only[Par.Gives];go_simp;all_goals exact f.out
    ·have f:=aa a;obtain rfl:=a;simp only[Par.Gives];go_simp;all_goals exact f.out
    ·have f:=aa a;obtain rfl:=a;simp only[Par.Gives];go_simp;all_goals exact f.out
    ·have f:=aa a;obtain rfl:=a;simp only[Par.Gives];go_simp;all_goals exact f.out
    ·have f:=aa a;obtain rfl:=a;simp only[Par.Gives];go_simp;all_goals exact f.out
    ·have f:=aa a;obtain rfl:=a;simp only[Par.Gives];go_simp;all_goals exact f.out
    have f:=aa a;obtain rfl:=a;simp only[Par.Gives];go_simp;all_goals exact f.out
   intro w' a;simp only[cw,yq];obtain rfl:=a;go_wp2_with fail;go_roundg (n-j)
   case measure=>omega
   exact⟨j+1,by go_num,by omega,by omega,(P.out.on (aF wr)).skip L (by rw[HC.out];exact HX.out)⟩
  have HX:=aa Q;have a4:(c.nm.toList==t.key.toList)=true:=(by rw[aR];exact Q);clear Q;refine Par.ae 9 [.pointer (some ⟨S,1,none⟩),.slice (some ⟨g,0,none⟩) n c1,.int .i64 (j:Int),.pointer (some ⟨g,j*4,none⟩),.pointer (some ⟨g,j*4,none⟩),.string (c.nm),.pointer (some ⟨S,2,none⟩),.string (t.key),.bool true] (fun w=>w=wr.drew) ?A2 ?hm2 ?hB2 ?hA2 (rfl) ?hop2 ?hT2
  case hm2=>kernel_rfl
  case hB2=>kernel_rfl
  case hA2 =>
   simp only[Par.am,Par.ai,Act.put,cy,db,bt,cp,dc,da,bu,eg,ed];rfl
  case hop2 =>
   simp only[ce,ze,Par.ah,yu];and_intros<;>intro w' a
   ·have f:=aa a;obtain rfl:=a;simp only[Par.Gives];go_simp;all_goals exact f.out
   ·have f:=aa a;obtain rfl:=a;simp only[Par.Gives];go_simp;all_goals exact f.out
   ·have f:=aa a;obtain rfl:=a;simp only[Par.Gives];go_simp;all_goals exact f.out
   ·have f:=aa a;obtain rfl:=a;simp only[Par.Gives];go_simp;all_goals exact f.out
   ·have f:=aa a;obtain rfl:=a;simp only[Par.Gives];go_simp;all_goals exact f.out
   ·have f:=aa a;obtain rfl:=a;simp only[Par.Gives];go_simp;all_goals exact f.out
   ·have f:=aa a;obtain rfl:=a;simp only[Par.Gives];go_simp;all_goals exact f.out
   ·have f:=aa a;obtain rfl:=a;simp only[Par.Gives];go_simp;all_goals exact f.out
   have f:=aa a;obtain rfl:=a;simp only[Par.Gives];go_simp;all_goals exact f.out
  intro w' a;simp only[cw,yq];obtain rfl:=a;go_wp2_with fail;go_roundg (n-j)
  case measure=>omega
  exact⟨j+1,by go_num,by omega,by omega,(P.out.on (aF wr)).take z.1 L (by rw[HC.out];exact HX.out)⟩
 obtain rfl:j=n:=(by omega);have m:=A.box;have l:=A.res;have z0:=aA m 0;have z1:=aA m 1;have z2:=aA m 2;have z3:=aA m 3;have zl:=aC m;have r0:=aA l 0;have r1:=aA l 1;have r2:=aA l 2;have r3:=aA l 3;have rf:=(fun i=>zo wr (S+1) i _ _ l);have rl:=aC l;have P:=aa A;clear A m l;go_wp2_with fail;have x:=mj P.out.res (.string t.nm) (.slice (some ⟨g,0,none⟩) j c1) (.string t.key) (.slice p nd o);have N:=bD P.out.below (show S<=S+1 by omega) (.string t.nm) (.slice (some ⟨g,0,none⟩) j c1) (.string t.key) (.slice p nd o);have hO:=cG wr (S+1);have ho:∀q:Nat,q≠S+1->((((wr.setCell ⟨S+1,0,none⟩ (.string t.nm)).setCell ⟨S+1,1,none⟩ (.slice (some ⟨g,0,none⟩) j c1)).setCell ⟨S+1,2,none⟩ (.string t.key)).setCell ⟨S+1,3,none⟩ (.slice p nd o)).heap[q]?=wr.heap[q]?:=(fun q h=>hO q h _ _ _ _);generalize (((wr.setCell _ _).setCell _ _).setCell _ _).setCell _ _=wz at x N ho ⊢;have y0:=aA x 0;have y1:=aA x 1;have y2:=aA x 2;have y3:=aA x 3;refine ya (v:=.agg #[.string t.nm,(.slice (some ⟨g,0,none⟩) j c1),.string t.key,(.slice p nd o)]) (by simp[results,results68,go_sem,y0,y1,y2,y3]) rfl ?_;rw[z.1,HS.out];refine⟨_,_,rfl,⟨?_,z.2.2.later (by rw[HS.out];exact N)⟩,N⟩;have hc:=P.out.c;have e:de t.key t.cols j=t.cols.map (mq t.key):=(by rw[<-z.1,pE]);rw[e,z.1]at hc;have U:=ac.BT (hc.of (fun k hk=>ho k (by have:=(hc.lt k hk).1;omega))) (by decide) (by decide);show jw wz _ (t.cols.map (mq t.key)).length 4 _;rw[yh,z.1];exact U
theorem zL:∀l:List UInt8,Op.bytesLess l l=false
 | []=>rfl
 | a::r=>by
  unfold Op.bytesLess;rw[zL r]
  simp
section
variable {S TB:Nat}{W w w':World}{t:T}{cv dv:Value}{nm key:ByteArray}{cs:List C}{ds:List D}{cu du:Value}{ps:List Value}
end
section
variable {B:Nat}{w w':World}{us:List T}{v:Value}{xs:List Value}
end
section
variable {H:Type}{enc:TypeId×Value->H}{W:World}
end
section
variable {H:Type}{enc:TypeId×Value->H}{W:World}
end
def Wd(W:World)(v:Value)(l:List ByteArray):Prop:=∃p cap,v=.slice p l.length cap/\l.length<=cap/\cap<=maxLen/\(∀a,p=some a->a.spot=none)/\(0<l.length->∃b off cur m,p=some ⟨b,off,none⟩/\W.heap[b]?=some (.cells cur 9 m)/\∀j (h:j<l.length),cur[off+j]?=some (.string l[j]))
section
variable {W W':World}{v:Value}{l:List ByteArray}
theorem Wd.rd(h:Wd W v l):lg W v l:=by
 obtain⟨p,d,g,i,k,n,o⟩:=h;refine⟨mK l,p,d,g,i,k,n,fun q=>?_⟩;obtain⟨b,e,f,m,r,s,t⟩:=o q;refine⟨b,e,f,9,m,r,s,by decide,by decide,fun j u a=>?_⟩;unfold cellsS at a;rw[xm]at a;by_cases c:j<l.length
 ·rw[z6 c]at a;cases a;exact t j c
 rw[u6 (by omega)]at a;cases a
end
section
variable {base:Nat}{v:Value}{vs us:List Value}{ps qs:List (List ByteArray)}{w w':World}
end
theorem Wd.lit{W:World}{b:Nat}{x:ByteArray}{m:Nat×Nat}(h:W.heap[b]?=some (.cells #[.string x] 9 m)):Wd W (.slice (some ⟨b,0,none⟩) 1 1) [x]:=
 ⟨_,1,rfl,zm _,by decide,fun a h=>(by cases h;rfl),fun _=>⟨b,0,_,m,rfl,h,fun j c=>by
  have:j=0:=(by simp at c;omega);subst this;rfl⟩⟩
theorem sU:∀(os:List Obj) (W:World) (k:Nat),k<W.heap.size->(os.foldl World.alloc W).heap[k]?=W.heap[k]?
 | [],_,_,_=>rfl
 | o::os,W,k,h=>by
  rw[List.foldl_cons,sU os _ _ (by rw[zj];omega)];exact wi W o k h
theorem zM:∀(os:List Obj) (W:World) (i:Nat),i<os.length->(os.foldl World.alloc W).heap[W.heap.size+i]?=os[i]?
 | [],_,_,h=>absurd h (yo _)
 | o::os,W,0,_=>by
  rw[List.foldl_cons,sU os _ _ (by rw[zj];omega)];exact z7 W o
 | o::os,W,i+1,h=>by
  rw[List.foldl_cons]
  have:=zM os (W.alloc o) i (by simpa using h)
  rw[zj]at this;rw[show W.heap.size+(i+1)=W.heap.size+1+i by omega,this];rfl
theorem gY:∀(os:List Obj) (W:World),Below W.heap.size W (os.foldl World.alloc W)
 | [],_=>zb _ _
 | o::os,W=>by
  rw[List.foldl_cons];exact aB (aD W o) (gY os _)
theorem DB{W:World}{b b2:Nat}{x r:ByteArray}(h:W.heap[b]?=some (.cells #[.slice (some ⟨b2,0,none⟩) 1 1,.string r] 124))(h2:W.heap[b2]?=some (.cells #[.string x] 9)):pz W (.slice (some ⟨b,0,none⟩) 1 1) [⟨[x],r⟩]:=
 ⟨[.slice (some ⟨b2,0,none⟩) 1 1],rfl,⟨rfl,_,1,rfl,zm _,by decide,fun a h=>(by cases h;rfl),fun _=>⟨b,0,_,124,_,rfl,h,by decide,by decide,fun j u c=>by
  rw[xq,List.getElem?_toArray];exact c⟩⟩,fun j a b=>by
  have:j=0:=(by simp at a;omega);subst this;exact(Wd.lit h2).rd⟩
abbrev an:ByteArray:=⟨#[108,97,110,100]⟩
abbrev oj:ByteArray:=⟨#[105,100]⟩
abbrev lw:ByteArray:=⟨#[110,97,109,101]⟩
abbrev ap:ByteArray:=⟨#[115,104,111,112]⟩
abbrev qm:ByteArray:=⟨#[99,105,116,121]⟩
abbrev bs:ByteArray:=⟨#[122,111,110,101]⟩
abbrev nw:ByteArray:=⟨#[100,97,121]⟩
abbrev sD:ByteArray:=⟨#[100]⟩
abbrev sw:ByteArray:=⟨#[109,111,110,116,104]⟩
abbrev Ag:ByteArray:=⟨#[121,101,97,114]⟩
abbrev pq:ByteArray:=⟨#[115,97,108,101]⟩
abbrev sN:ByteArray:=⟨#[110]⟩
abbrev Cd:ByteArray:=⟨#[116,97,103]⟩
def tr:T:=⟨an,[⟨oj,1,false,e0⟩,⟨lw,2,false,e0⟩],oj,[]⟩
def qp:T:=⟨ap,[⟨oj,1,false,e0⟩,⟨qm,2,true,e0⟩,⟨bs,2,false,e0⟩,⟨an,1,false,an⟩],oj,[⟨[qm],bs⟩]⟩
def AK:T:=⟨nw,[⟨sD,2,false,e0⟩,⟨sw,1,true,e0⟩,⟨Ag,1,false,e0⟩],sD,[⟨[sw],Ag⟩]⟩
def rz:T:=⟨pq,[⟨ap,1,false,ap⟩,⟨nw,2,false,nw⟩,⟨sN,1,false,e0⟩,⟨Cd,2,false,e0⟩],e0,[]⟩
def ei:List T:=[tr,qp,AK,rz]
def sl(b n:Nat):Value:=.slice (some ⟨b,0,none⟩) n n
def q'(S:Nat):List Value:=[.string an,sl S 2,.string oj,.slice none 0 0,.string ap,sl (S+1) 4,.string oj,sl (S+3) 1,.string nw,sl (S+4) 3,.string sD,sl (S+6) 1,.string pq,sl (S+7) 4,.string e0,.slice none 0 0]
def se(S:Nat):List Obj:=[.cells (ba tr.cols).toArray 95,.cells (ba qp.cols).toArray 95,.cells #[.string qm] 9,.cells #[sl (S+2) 1,.string bs] 124,.cells (ba AK.cols).toArray 95,.cells #[.string sw] 9,.cells #[sl (S+5) 1,.string Ag] 124,.cells (ba rz.cols).toArray 95,.cells (q' S).toArray 77]
theorem sV(W:World):iu ((se W.heap.size).foldl World.alloc W) (sl (W.heap.size+8) 4) ei:=by
 have h:=(fun i c=>zM (se W.heap.size) W i c);obtain⟨w,d⟩:=ag ((se W.heap.size).foldl World.alloc W);rw[d]at h ⊢;obtain⟨S,e⟩:=ag W.heap.size;rw[e]at h ⊢;have f:=h 0 (show(0:Nat)<9 by decide);have g:=h 1 (show(1:Nat)<9 by decide);have k:=h 2 (show(2:Nat)<9 by decide);have m:=h 3 (show(3:Nat)<9 by decide);have n:=h 4 (show(4:Nat)<9 by decide);have o:=h 5 (show(5:Nat)<9 by decide);have p:=h 6 (show(6:Nat)<9 by decide);have q:=h 7 (show(7:Nat)<9 by decide);have b:=h 8 (show(8:Nat)<9 by decide);have r:ey w (sl S 2) (.slice none 0 0) tr:=⟨fu.lit (l:=tr.cols) f (by decide),pz.none _⟩;have s:ey w (sl (S+1) 4) (sl (S+3) 1) qp:=⟨fu.lit (l:=qp.cols) g (by decide),DB (b2:=S+2) m k⟩;have t:ey w (sl (S+4) 3) (sl (S+6) 1) AK:=⟨fu.lit (l:=AK.cols) n (by decide),DB (b2:=S+5) p o⟩;have v:ey w (sl (S+7) 4) (.slice none 0 0) rz:=⟨fu.lit (l:=rz.cols) q (by decide),pz.none _⟩;refine⟨_,4,q' S,rfl,zm _,by decide,fun _=>⟨S+8,0,rfl,aC b,fun j u a=>?_⟩,rfl,fun j a=>?_⟩
 ·rw[aA b,xq,List.getElem?_toArray];exact a
 match j,a with
 | 0,_=>exact⟨_,_,rfl,rfl,rfl,rfl,r⟩
 | 1,_=>exact⟨_,_,rfl,rfl,rfl,rfl,s⟩
 | 2,_=>exact⟨_,_,rfl,rfl,rfl,rfl,t⟩
 | 3,_=>exact⟨_,_,rfl,rfl,rfl,rfl,v⟩
 | j+4,a=>exact absurd a (by simp[ei])
theorem FA(W:World):Calls prog 33 #[] W fun e w'=>∃v,e=.returned v/\iu w' v ei/\Below W.heap.size W w':=by
 have a:=aa (ab (sV W) (gY (se W.heap.size) W));go_enter func33,ntmps33;go_wp2_with fail;go_ret;exact⟨_,rfl,a.1,a.2⟩
section
variable {S:Nat}{W w w':World}{ks:List T}{v:Value}
end
abbrev zC:Obj:=.cells #[.string e0,.int .i64 0,.bool false,.string e0] 95
abbrev oC(c:C):Obj:=.cells #[.string c.nm,.int .i64 c.kd,.bool c.mu,.string c.tgt] 95
structure Je (w0:World) (E:Nat->Value) (c:C) (l:Nat->Bool) (vs:Nat->Value) (w:World):Prop where
 b:Below w0.heap.size w0 w
 ev:∀j,j<10->l j=true->vs j=E j
 Lx:l 10=true->∃g,vs 10=.pointer (some ⟨g,0,none⟩)/\w0.heap.size<=g/\w.heap[g]?=some (if l 12=true then oC c else zC)
 LB:l 11=true->∃g,vs 11=.pointer (some ⟨g,0,none⟩)/\w0.heap.size<=g/\w.heap[g]?=some zC
 ne:l 10=true->l 11=true->vs 10≠vs 11
section
open Par
variable {w0 w:World}{E:Nat->Value}{c:C}{l:Nat->Bool}{vs:Nat->Value}
theorem aI{l:Nat->Bool}{i j:Nat}(h:j≠i):fq l i j=l j:=by simp[fq,h]
theorem aJ{vs:Nat->Value}{i j:Nat}{v:Value}(h:j≠i):fk vs i v j=vs j:=by simp[fk,h]
theorem bW{l:Nat->Bool}{i:Nat}:fq l i i=true:=by simp[fq]
theorem aS{vs:Nat->Value}{i:Nat}{v:Value}:fk vs i v i=v:=by simp[fk]
end
