import Derived.Test.YtkchgbjoeggdbaaGreatZn37
set_option maxHeartbeats 8000000
set_option maxRecDepth 100000
namespace Go.Proofs.YtkchgbjoeggdbaaGreat
open Go.Proofs.Tryz
open Go Go.RowKit Go.Proofs Co Co.S
def ny(ts:List T)(L:List PT)(o:jt):List PT:=
 match ts[(jz ts o.tbl).toNat]?,L[(jz ts o.tbl).toNat]? with
 | some t,some x=>if jz ts o.tbl<0 then L else if o.dO=1 then L.set (jz ts o.tbl).toNat (iz t x o.vals)else if o.dO=2 then L.set (jz ts o.tbl).toNat (nw x o.id)else if o.vals.length=1 then L.set (jz ts o.tbl).toNat (qr t x o.id o.col (o.vals.getD 0 z3))else L
 | _,_=>L
def jk(ts:List T)(L:List PT)(l:List jt):List PT:=l.foldl (ny ts) L
structure nh (o:jt):Prop where
 id:lg o.id
 tbl:o.tbl.size<=maxLen
 col:o.col.size<=maxLen
 vals:∀x∈o.vals,x.2.2.size<=maxLen
 few:o.vals.length<=1000
section
variable{ts:List T}{L:List PT}{o:jt}{j m:Nat}
theorem EB(h:jz ts o.tbl<0):ny ts L o=L:=by
 unfold ny;split
 ·rw[zw h]
 rfl
theorem nE(h:jz ts o.tbl=(j:Int))(hj:j<ts.length)(hL:j<L.length):ny ts L o=if o.dO=1 then L.set j (iz ts[j] L[j] o.vals)else if o.dO=2 then L.set j (nw L[j] o.id)else if o.vals.length=1 then L.set j (qr ts[j] L[j] o.id o.col (o.vals.getD 0 z3))else L:=by
 unfold ny;rw[h];simp only[wo,z6 hj,z6 hL];rw[zu (by omega)]
theorem ie.mono{m m':Nat}{x:PT}(h:ie m x)(hm:m<=m'):ie m' x:=⟨zx h.1 hm,h.2⟩
theorem wH(h:∀x∈L,ie m x){y:PT}(hy:ie (m+1) y):∀x∈L.set j y,ie (m+1) x:=fun x a=>by
 rcases List.mem_or_eq_of_mem_set a with b|rfl
 ·exact(h x b).mono (by omega)
 ·exact hy
theorem tM(h:∀x∈L,ie m x):∀x∈ny ts L o,ie (m+1) x:=by
 unfold ny;split
 ·rename_i t x c b;have a:=h x (List.mem_of_getElem? b);split
  ·exact fun x a=>(h x a).mono (by omega)
  split
  ·exact wH h (a.ins t o.vals)
  split
  ·exact wH h ((a.del o.id).mono (by omega))
  split
  ·exact wH h ((a.set t o.id o.col _).mono (by omega))
  exact fun x a=>(h x a).mono (by omega)
 exact fun x a=>(h x a).mono (by omega)
theorem nF{l:List jt}(h:∀x∈L,ie m x):∀x∈jk ts L l,ie (m+l.length) x:=by
 induction l generalizing L m with
 | nil=>exact h
 | cons o l ih =>
  have:=ih (tM (ts:=ts) (o:=o) h)
  intro x a
  have:=this x a
  rw[xa];exact this.mono (by omega)
theorem nG{l:List jt}(hj:j<l.length):jk ts L (l.take (j+1))=ny ts (jk ts L (l.take j)) l[j]:=by
 unfold jk;rw[yi hj,List.foldl_append];rfl
end
theorem Cz{α:Type}(f:α->List Value)(hf:∀x,(f x).length=5):∀(l:List α) (j k:Nat) (a:j<l.length),k<5->(l.flatMap f)[j*5+k]?=(f l[j])[k]?
 | [],j,_,a,_=>absurd a (yh j)
 | x::l,0,k,_,hk=>by
  rw[wv,xu (by rw[hf];omega),Nat.zero_mul,xj];rfl
 | x::l,j+1,k,a,hk=>by
  have b:j<l.length:=(by simpa using a);rw[wv,ya (by rw[hf];omega),hf,show(j+1)*5+k-5=j*5+k by omega];exact Cz f hf l j k b hk
theorem Es{L:List jt}{sv:List Value}(h:sv.length=L.length){j:Nat}(hj:j<L.length){v:Value}(hv:sv[j]?=some v):(mx L sv)[j*5]?=some (.int .i64 L[j].dO)/\(mx L sv)[j*5+1]?=some (.string L[j].tbl)/\(mx L sv)[j*5+2]?=some (.int .i64 L[j].id)/\(mx L sv)[j*5+3]?=some (.string L[j].col)/\(mx L sv)[j*5+4]?=some v:=by
 have a:j<(L.zip sv).length:=by rw[List.length_zip,h,Nat.min_self];exact hj
 have e:(L.zip sv)[j]=(L[j],v):=by
  rw[List.getElem_zip]
  have:sv[j]'(by rw[h];exact hj)=v:=by
   have:=(List.getElem?_eq_some_iff.1 hv).2
   exact this
  rw[this]
 have f:=(fun k b=>Cz (fun p:jt×Value=>opC p.1 p.2) (fun _=>rfl) (L.zip sv) j k a b);simp only[e]at f;exact⟨f 0 (by decide),f 1 (by decide),f 2 (by decide),f 3 (by decide),f 4 (by decide)⟩
theorem tN{K:Nat->Prop}{W0:World}{base:Nat}{tv:Value}{L:List jt}(ho:qv W0 base tv L)(hK:∀q,base<=q->q<W0.heap.size->K q){j:Nat}(hj:j<L.length):∃g b h,tv=.slice (some ⟨g,0,none⟩) L.length b/\∀w:World,(∀q,K q->w.heap[q]?=W0.heap[q]?) ->
   (w.cell? ⟨g,j*5,none⟩=some (.int .i64 L[j].dO)/\w.cell? ⟨g,j*5+1,none⟩=some (.string L[j].tbl)/\w.cell? ⟨g,j*5+2,none⟩=some (.int .i64 L[j].id)/\w.cell? ⟨g,j*5+3,none⟩=some (.string L[j].col)/\w.cell? ⟨g,j*5+4,none⟩=some h/\g<w.heap.size)/\ac w base 32 3 h L[j].vals.length (cells3 L[j].vals)/\fk K w h L[j].vals:=by
 obtain⟨sv,o,m,p⟩:=ho;obtain⟨g,b,rfl,_,_⟩:=ac.slice m (by omega);obtain⟨v,r,c⟩:=p j hj;obtain⟨c0,c1,c2,c3,c4⟩:=Es o hj r;refine⟨g,b,v,rfl,fun w s=>?_⟩
 have d:∀{e size n:Nat} {u:Value} {xs:List Value},ac W0 base e size u n xs->ac w base e size u n xs:=fun c=>c.of (fun q i=>by
  obtain⟨k,l⟩:=ac.lt c q i;exact s q (hK q k l))
 have a:=d m;have f:=d c;refine⟨⟨a.cell c0,a.cell c1,a.cell c2,a.cell c3,a.cell c4,(ac.lt a g rfl).2⟩,f,(fk.my f rfl).mono (fun q _ i=>?_)⟩;obtain⟨k,l⟩:=ac.lt c q i;exact hK q k l
abbrev ly(tt:List RT):List (List R1):=tt.map (·.A)
section
variable{W:World}{b:Nat}{us:List T}{tt:List RT}{i:NI}{O:Nat->Nat}
theorem wI(h:im W b us tt i O)(hi:ls us)(hc1:∀t∈us,t.cols.length<=1000)(hAl:∀y∈tt,y.A.length<=100000)(x:ByteArray)(u:T3):Calls prog 211 #[.pointer (some ⟨b,0,none⟩),.string x,.agg #[.int .i64 u.1,.int .i64 u.2.1,.string u.2.2]] W fun e r=>e=.returned (.tuple #[.int .i64 ((bi us (ly tt) x u).getD 0),.bool (bi us (ly tt) x u).isSome])/\Below W.heap.size W r:=by
 rcases bW us x with ⟨f,_,s⟩ | ⟨j,c,f,_,s⟩
 ·rw[mZ (by omega)];exact jP h x u.1 u.2.1 u.2.2 (.inl (by omega))
 have d:j<tt.length:=(by rw[h.n];exact c);have o:j<(ly tt).length:=(by rw[yd];exact d);rw[oV c o f];by_cases g:us[j].key=e0
 ·rw[zw g];exact jP h x u.1 u.2.1 u.2.2 (.inr ⟨j,c,f,.inl g⟩)
 rw[zu g];by_cases l:u.1=0
 ·rw[zw l];exact jP h x u.1 u.2.1 u.2.2 (.inr ⟨j,c,f,.inr l⟩)
 rw[zu l];have a:=hi.key _ (z8 c)
 have q:cp us[j].cols us[j].key=true:=by
  unfold bm at a;rw[wh]at a;rcases a with a|a
  ·rw[eJ]at a;exact absurd a g
  exact a
 rcases cD us[j].cols us[j].key with ⟨_,m,_⟩ | ⟨k,p,m,_⟩
 ·rw[m]at q;cases q
 rw[m]
 have:=vX h c (z6 d) f g p m u.1 u.2.1 u.2.2 l (hAl _ (z8 d)) (hc1 _ (z8 c))
 simpa only[wo,ly,yw]using this
structure Gn where
 t:Nat
 k:Nat
 c:Nat
 gs:Nat
 cs:Nat
 go:Nat
 co:Nat
 gr:Nat
 na:Nat
 cr:Nat
 gv:Nat
 cv:Nat
 nc:Nat
 bc:Nat
 oc:Nat
 kc:Nat
 pd:Option Addr
 nd:Nat
 kd:Nat
 nm:ByteArray
 key:ByteArray
structure NV (w:World) (b mt:Nat) (id:Int) (y:ByteArray) (u:T3) (tg:ByteArray) (x:Gn):Prop where
 b0:w.cell? ⟨b,0,none⟩=some (.slice (some ⟨x.gs,0,none⟩) mt x.cs)
 b1:w.cell? ⟨b,1,none⟩=some (.slice (some ⟨x.go,0,none⟩) mt x.co)
 s0:w.cell? ⟨x.gs,x.t*4,none⟩=some (.string x.nm)
 s1:w.cell? ⟨x.gs,x.t*4+1,none⟩=some (.slice (some ⟨x.bc,x.oc,none⟩) x.nc x.kc)
 s2:w.cell? ⟨x.gs,x.t*4+2,none⟩=some (.string x.key)
 s3:w.cell? ⟨x.gs,x.t*4+3,none⟩=some (.slice x.pd x.nd x.kd)
 o0:w.cell? ⟨x.go,x.t,none⟩=some (.slice (some ⟨x.gr,0,none⟩) x.na x.cr)
 r0:w.cell? ⟨x.gr,x.k*2+1,none⟩=some (.slice (some ⟨x.gv,0,none⟩) x.nc x.cv)
 v0:w.cell? ⟨x.gv,x.c*3,none⟩=some (.int .i64 u.1)
 v1:w.cell? ⟨x.gv,x.c*3+1,none⟩=some (.int .i64 u.2.1)
 v2:w.cell? ⟨x.gv,x.c*3+2,none⟩=some (.string u.2.2)
 tg:w.cell? ⟨x.bc,x.oc+x.c*4+3,none⟩=some (.string tg)
 bl:b<w.heap.size
 sl:x.gs<w.heap.size
 ol:x.go<w.heap.size
 rl:x.gr<w.heap.size
 vl:x.gv<w.heap.size
 cl:x.bc<w.heap.size
 atc:Calls prog 95 #[.pointer (some ⟨b,0,none⟩),.int .i64 (x.t:Int),.int .i64 id] w fun e w'=>e=.returned (.int .i64 (x.k:Int))/\w'=w
 col:Calls prog 97 #[.agg #[.string x.nm,.slice (some ⟨x.bc,x.oc,none⟩) x.nc x.kc,.string x.key,.slice x.pd x.nd x.kd],.string y] w fun e w'=>e=.returned (.int .i64 (x.c:Int))/\Below w.heap.size w w'
end
abbrev zF:Array Value:=#[.int .i64 0,.int .i64 0,.string e0,.int .i64 0,.string e0]
abbrev dr(e a:Int)(t:ByteArray)(r:Int)(c:ByteArray):Value:=.agg #[.int .i64 e,.int .i64 a,.string t,.int .i64 r,.string c]
theorem nX{x:World}{b:Nat}{a0 a1 a2 a3 a4:Value}{t:TypeId}(h:x.heap[b]?=some (.cells #[a0,a1,a2,a3,a4] t))(a c d e f:Value):(((((x.setCell ⟨b,0,none⟩ a).setCell ⟨b,1,none⟩ c).setCell ⟨b,2,none⟩ d).setCell ⟨b,3,none⟩ e).setCell ⟨b,4,none⟩ f).heap[b]?=some (.cells #[a,c,d,e,f] t):=by
 rw[y7 _ b 4 #[a,c,d,e,a4] t f (y7 _ b 3 #[a,c,d,a3,a4] t e (y7 _ b 2 #[a,c,a2,a3,a4] t d (y7 _ b 1 #[a,a1,a2,a3,a4] t c (y7 _ b 0 #[a0,a1,a2,a3,a4] t a h))))];rfl
theorem bF{A w:World}{g:Nat}(h:A.grownBy w (some g))(j:Nat)(a:Value):A.grownBy (w.setCell ⟨g,j,none⟩ a) (some g):=
 ⟨h.os,h.tape,h.output,by simpa using h.size,fun q c b=>by
  rw[y9 w ⟨g,j,none⟩ q a (fun e=>b (by rw[e]))];exact h.block q c b⟩
theorem gU(w:World)(o:Option Nat):w.grownBy w o:=⟨rfl,rfl,rfl,zo _,fun _ _ _=>rfl⟩
theorem bG(w:World)(g:Nat)(a b c d e:Value):w.grownBy (((((w.setCell ⟨g,0,none⟩ a).setCell ⟨g,1,none⟩ b).setCell ⟨g,2,none⟩ c).setCell ⟨g,3,none⟩ d).setCell ⟨g,4,none⟩ e) (some g):=
 bF (bF (bF (bF (bF (gU w (some g)) 0 a) 1 b) 2 c) 3 d) 4 e
theorem Ea(n:Int)(W:World):Calls prog 164 #[.int .i64 n] W fun e k=>e=.returned (.agg #[.int .i64 1,.int .i64 n,.string e0])/\Below W.heap.size W k:=by
 have b:=aD W (.cells #[.int .i64 0,.int .i64 0,.string e0] 32);have a:=z7 W (.cells #[.int .i64 0,.int .i64 0,.string e0] 32);obtain⟨l,c⟩:=ae (W.alloc (.cells #[.int .i64 0,.int .i64 0,.string e0] 32));obtain⟨B,h⟩:=ae W.heap.size;rw[c]at b a;rw[h]at a;have q:=aA a 0;have r:=aA a 1;have s:=aA a 2;have t:=(fun i=>zq l B i _ _ a);have u:=aB a;have d:=aa (ab c (ab h (ab b a)));clear c h b a;go_enter func164,ntmps164;go_upto_region 1 with fail;rw[d.1,d.2.1];go_wp2_with fail;generalize j:((World.setCell _ _ _).setCell _ _).setCell _ _=wz;have g:=gD d.2.2.2 (.int .i64 1) (.int .i64 n) (.string e0);have f:=bD d.2.2.1 (xn d.2.1) (.int .i64 1) (.int .i64 n) (.string e0);rw[j]at g f;have m:=aA g 0;have o:=aA g 1;have p:=aA g 2;refine y8 (v:=(.agg #[.int .i64 1,.int .i64 n,.string e0])) (by simp[results,results164,go_sem,m,o,p]) rfl ?_;exact⟨rfl,f⟩
theorem tO(s:ByteArray)(W:World):Calls prog 165 #[.string s] W fun e k=>e=.returned (.agg #[.int .i64 2,.int .i64 0,.string s])/\Below W.heap.size W k:=by
 have b:=aD W (.cells #[.int .i64 0,.int .i64 0,.string e0] 32);have a:=z7 W (.cells #[.int .i64 0,.int .i64 0,.string e0] 32);obtain⟨l,c⟩:=ae (W.alloc (.cells #[.int .i64 0,.int .i64 0,.string e0] 32));obtain⟨B,h⟩:=ae W.heap.size;rw[c]at b a;rw[h]at a;have p:=aA a 0;have q:=aA a 1;have r:=aA a 2;have t:=(fun i=>zq l B i _ _ a);have u:=aB a;have d:=aa (ab c (ab h (ab b a)));clear c h b a;go_enter func165,ntmps165;go_upto_region 1 with fail;rw[d.1,d.2.1];go_wp2_with fail;generalize j:((World.setCell _ _ _).setCell _ _).setCell _ _=wz;have g:=gD d.2.2.2 (.int .i64 2) (.int .i64 0) (.string s);have f:=bD d.2.2.1 (xn d.2.1) (.int .i64 2) (.int .i64 0) (.string s);rw[j]at g f;have m:=aA g 0;have n:=aA g 1;have o:=aA g 2;refine y8 (v:=(.agg #[.int .i64 2,.int .i64 0,.string s])) (by simp[results,results165,go_sem,m,n,o]) rfl ?_;exact⟨rfl,f⟩
theorem Il{K:Nat->Prop}{W0 w0:World}{d b:Nat}{ts:List T}{ps:List Nat}{L1 L2:List PT}{p:Option Addr}{cap:Nat}{ops:List jt}{m:Nat}(h:PD K W0 w0 d b ts ps L1 L2)(hread:∀j (hj:j<ops.length),∃g o vv,p=some ⟨g,o,none⟩/\∀w:World,(∀q,K q->w.heap[q]?=W0.heap[q]?)->(w.cell? ⟨g,o+j*5,none⟩=some (.int .i64 ops[j].dO)/\w.cell? ⟨g,o+j*5+1,none⟩=some (.string ops[j].tbl)/\w.cell? ⟨g,o+j*5+2,none⟩=some (.int .i64 ops[j].id)/\w.cell? ⟨g,o+j*5+3,none⟩=some (.string ops[j].col)/\w.cell? ⟨g,o+j*5+4,none⟩=some vv/\g<w.heap.size)/\fk K w vv ops[j].vals)(hi:ls ts)(hfew:bs ts)(H:Short ts)(r:∀t∈ts,0<t.cols.length/\t.cols.length<=1000)(h1:∀x∈L1,ie m x)(h2:∀x∈L2,ie m x)(hm:m+ops.length<=590)(hops:∀o∈ops,nh o)(hon:∀o∈ops,o.dO=1/\jz ts o.tbl≠-1):Calls prog 21 #[.pointer (some ⟨d,0,none⟩),.pointer (some ⟨b,0,none⟩),.slice p ops.length cap] w0 fun e a=>e=.returned (.tuple #[])/\PD K W0 a d b ts ps (jk ts L1 ops) (jk ts L2 ops):=by
 obtain⟨n,hn⟩:=ae ops.length;have d4:=aa hon;have a7:Hid (∀j (hj:j<ops.length),_):=aa (fun j hj=>hread j hj);have R:=aa (ab hi (ab hfew (ab H (ab r (ab h1 (ab h2 (ab hm (ab hops hn))))))));have HP:=aa h;rw[hn];clear hread hi hfew H r h1 h2 hm hops hn h hon;go_enter func21,ntmps21;have e7:(n:Int)<=590:=(by have h1:=R.2.2.2.2.2.2.1;have h2:=R.2.2.2.2.2.2.2.2;omega);go_wp2_with fail;go_loopg [6] (n+1) (fun gh jv w=>∃(j:Nat),jv=.int .i64 (j:Int)/\j<=n/\n+1<=j+gh/\PD K W0 w d b ts ps (jk ts L1 (ops.take j)) (jk ts L2 (ops.take j)))
 case atStart=>exact⟨0,rfl,zj _,by omega,HP.out⟩
 obtain⟨j,rfl,hj,hg,i⟩:=hrel;by_cases d5:j<n
 ·have e8:(j:Int)<(n:Int):=(by omega);have I:j<ops.length:=(by rw[R.2.2.2.2.2.2.2.2];exact d5);obtain⟨g,go,vv,rfl,b6⟩:=a7.out j I;obtain⟨⟨c0,c1,c2,c3,c4,gl⟩,hv⟩:=b6 wr (fun q J=>i.still J);obtain⟨pv,cv,rfl,_,_⟩:=hv.slice;have f:=R.2.2.2.2.2.2.2.1 _ (z8 I);have a8:=d4.out _ (z8 I);have W:=nF (ts:=ts) (l:=ops.take j) R.2.2.2.2.1;have Z:=nF (ts:=ts) (l:=ops.take j) R.2.2.2.2.2.1;have b7:(ops.take j).length=j:=(by rw[xq];omega);rw[b7]at W Z;have v:m+j<=590:=(by have:=R.2.2.2.2.2.2.1;omega);have M:=nG (ts:=ts) (L:=L1) I;have N:=nG (ts:=ts) (L:=L2) I;generalize jk ts L1 (ops.take j)=A at i W M;generalize jk ts L2 (ops.take j)=B at i Z N;obtain⟨A',a9⟩:=ae (jk ts L1 (ops.take (j+1)));obtain⟨B',b0⟩:=ae (jk ts L2 (ops.take (j+1)));rw[a9]at M;rw[b0]at N;have b8:=aa (ab a9 b0);clear a9 b0;obtain⟨o,ho⟩:=ae (ops[j]);simp only[ho]at c0 c1 c2 c3 c4 hv f M N a8;obtain⟨k,hk⟩:=ae o.vals.length;rw[hk]at c4 hv;obtain⟨V,hV⟩:=ae wr.heap.size;have O:=aD wr (.cells #[.int .i64 o.dO,.string o.tbl,.int .i64 o.id,.string o.col,.slice pv k cv] 73);have P:=z7 wr (.cells #[.int .i64 o.dO,.string o.tbl,.int .i64 o.id,.string o.col,.slice pv k cv] 73);have hz:=zm wr (.cells #[.int .i64 o.dO,.string o.tbl,.int .i64 o.id,.string o.col,.slice pv k cv] 73);have y:=i.with O;have Q:=hv.later O;obtain⟨s,b1⟩:=ae (wr.alloc (.cells #[.int .i64 o.dO,.string o.tbl,.int .i64 o.id,.string o.col,.slice pv k cv] 73));rw[b1]at O P y hz Q;rw[hV]at P y hz;obtain⟨F,a0⟩:∃F:Nat->Prop,(fun q=>K q∨(V<=q/\q<s.heap.size))=F:=⟨_,rfl⟩;rw[a0]at y;have b2:∀q,K q->F q:=(fun q J=>by rw[<-a0];exact .inl J);have b9:F V:=(by rw[<-a0];exact .inr ⟨zo _,by omega⟩);have Q:fk F s (.slice pv k cv) o.vals:=Q.mono (fun q _ J=>b2 q J);have d6:Hid (∀w (X Y:List PT),PD F s w d b ts ps X Y->PD K W0 w d b ts ps X Y):=aa (fun w X Y S=>(i.later O).back S b2)
  have b3:Hid (∀(w:World) (X Y:List PT),PD F s w d b ts ps X Y->w.heap[V]?=some (.cells #[.int .i64 o.dO,.string o.tbl,.int .i64 o.id,.string o.col,.slice pv k cv] 73)/\fk F w (.slice pv k cv) o.vals):=aa (fun w X Y S=>by
   refine⟨(S.still b9).trans P,?_⟩;obtain⟨st,tt,⟨_,_,_,_,_,_,_,hT⟩,_⟩:=S;exact Q.tn hT (fun q J hn=>hn J))
  obtain⟨e9,i0,f0,a1,d7⟩:=y.dbn;have a3:=a1.box;have b4:=cW (x:=o.tbl) a1.um;have c:Hid (∀w,Below s.heap.size s w->w.heap[b]?=some (.cells #[i0.sv,i0.ov,i0.nv] 125)/\w.heap[V]?=some (.cells #[.int .i64 o.dO,.string o.tbl,.int .i64 o.id,.string o.col,.slice pv k cv] 73)/\Calls prog 56 #[i0.sv,.string o.tbl] w fun e a=>e=.returned (.int .i64 (jz ts o.tbl))/\a=w):=aa (fun w hw=>⟨aE hw a3,aE hw P,cW (a1.later hw).um⟩);have c5:=aa a8;have G:=aa (ab y (ab f (ab W (ab Z (ab v (ab M (ab N hk)))))));clear b4 a3 a1 d7 hv b6 b2 b9 a0 O P hz y Q f W Z v M N hk b7 a8;go_upto_region 4 with fail
  try rw[b1]
  try rw[hV]
  clear c0 c1 c2 c3 c4 gl b1 hV;rcases bW ts o.tbl with ⟨e1,e2,_⟩ | ⟨t,U,e1,e2,e3⟩
  ·exact absurd e1 c5.2
  have hp:t<ps.length:=(by rw[G.1.len.1];exact U);have hA:t<A.length:=(by rw[G.1.len.2.1];exact U);have hB:t<B.length:=(by rw[G.1.len.2.2];exact U);have H:=R.2.2.1 _ (z8 U);have c6:ts[t].nm=o.tbl:=gQ e3
  have a4:∀w,Below s.heap.size s w->Calls prog 14 #[.pointer (some ⟨d,0,none⟩),.string o.tbl] w fun e a=>e=.returned (.pointer (some ⟨ps[t],0,none⟩))/\a=w:=fun w hw=>by
   have:=(G.1.later hw).table U H hp
   rw[c6]at this;exact this
  have HT:=aa a4;rw[e1]at c;have z:=G.2.2.2.2.2.1;have E:=G.2.2.2.2.2.2.1;rw[nE e1 U hA]at z;rw[nE e1 U hB]at E;have r:=R.2.2.2.1 _ (z8 U);have f:=G.2.1;have c7:=G.2.2.1 _ (z8 hA);have c8:=G.2.2.2.1 _ (z8 hB);have v:=G.2.2.2.2.1;have hk:=G.2.2.2.2.2.2.2;have a5:Hid (∀w (X Y:List PT),PD F s w d b ts ps X Y->(hX:t<X.length)->ie (m+j) X[t]->Calls prog 57 #[.pointer (some ⟨ps[t],0,none⟩),.slice pv k cv] w fun e a=>(∃r1 r2,e=.returned (.tuple #[.int .i64 r1,.int .i64 r2]))/\PD F s a d b ts ps (X.set t (iz ts[t] X[t] o.vals)) Y):=aa (fun w X Y S hX hs=>(S.Bn U hp hX (b3.out w X Y S).2 (fun q J=>J) hs v r.2 f.vals (by have:=f.few;omega)).mono (fun e a⟨h1,h2⟩=>⟨⟨_,_,h1⟩,h2⟩));have c9:Hid (∀w (X Y:List PT),PD F s w d b ts ps X Y->(hY:t<Y.length)->ie (m+j) Y[t]->Calls prog 58 #[.pointer (some ⟨b,0,none⟩),.int .i64 (t:Int),.slice pv k cv] w fun e a=>(∃r1 r2,e=.returned (.tuple #[.int .i64 r1,.int .i64 r2]))/\PD F s a d b ts ps X (Y.set t (iz ts[t] Y[t] o.vals))):=aa (fun w X Y S hY hs=>(S.li U hY (b3.out w X Y S).2 (fun q J=>J) hs v r.2 r.1 f.vals (by have:=f.few;omega)).mono (fun e a⟨h1,h2⟩=>⟨⟨_,_,h1⟩,h2⟩));have a2:=aa (ab hA (ab hB (ab c7 c8)));obtain⟨pt,d0⟩:=ae (ps[t]);simp only[d0]at HT a5;have f1:¬ (t:Int)<0:=(by omega);have HN:=aa (ab z (ab E hk));clear a4 e1 e2 e3 H c6 z E r f c7 c8 v hk d0;refine Par.ag 13 [.pointer (some ⟨d,0,none⟩),.pointer (some ⟨V,1,none⟩),.string o.tbl,.pointer (some ⟨pt,0,none⟩),.pointer (some ⟨b,0,none⟩),.pointer (some ⟨b,0,none⟩),.pointer (some ⟨b,0,none⟩),i0.sv,.pointer (some ⟨V,1,none⟩),.string o.tbl,.int .i64 (t:Int),.pointer (some ⟨pt,0,none⟩),.int .i64 (t:Int)] (fun w=>Below s.heap.size s w) ?A2 ?hm2 ?hB2 ?hA2 (aG s) ?hop2 ?hT2
  case hm2=>kernel_rfl
  case hB2=>kernel_rfl
  case hA2 =>
   simp only[Par.am,Par.ai,Act.put,eh,ez,dz,eo,ew,ey,ed,ic,gy];rfl
  case hop2 =>
   simp only[en,zh,Par.ah,yo];and_intros<;>intro a u<;>have HR:=aa u
   rotate_left;have zl:=aB (c.out a u).2.1;rotate_left;have z1:=aA (c.out a u).2.1 1;rotate_left
   ·clear u;simp only[Par.Gives];go_simp;exact(HT.out a HR.out).mono (fun e d8⟨he,hb⟩=>⟨he,hb▸HR.out⟩)
   rotate_left;have zl:=aB (c.out a u).1;rotate_left;have zl:=aB (c.out a u).1;rotate_left;have z1:=aA (c.out a u).1 0;rotate_left;have zl:=aB (c.out a u).2.1;rotate_left;have z1:=aA (c.out a u).2.1 1;rotate_left
   ·clear u;simp only[Par.Gives];go_simp;exact((c.out a HR.out).2.2).mono (fun e d8⟨he,hb⟩=>⟨he,hb▸HR.out⟩)
   rotate_left 2
   all_goals(clear u;simp only[Par.Gives];go_simp;all_goals exact HR.out)
  intro a u;simp only[ex,ym];have d9:=aa (G.1.later u);have v2:=(c.out a u).2.1;have z0:=aA v2 0;have z2:=aA v2 2;have e4:=aA v2 3;have z4:=aA v2 4;have zl:=aB v2;clear v2 u;obtain⟨w2,rfl⟩:∃x,x=a:=⟨_,rfl⟩;have d1:=c5.1;rw[d1]at z0;have d2:=a5.out w2 A B d9.out a2.1 a2.2.2.1;obtain⟨z,E,_⟩:=HN.out;rw[zw d1]at z E;subst z E;clear d1
  go_wp2_with (first|(go_at_call 57;refine d2.mono ?_;rintro e w3⟨⟨r1,r2,rfl⟩,b5⟩;have a6:=c9.out w3 _ B b5 a2.2.1 a2.2.2.2;have v3:=(b3.out w3 _ _ b5).1;have y4:=aA v3 4;have yl:=aB v3;clear d2 z0 z2 e4 z4 zl v3 b5)|(go_at_call 58;refine a6.mono ?_;rintro e w4⟨⟨r3,r4,rfl⟩,d3⟩;have e5:=aa d3;clear a6 y4 yl d3))
  go_roundg (n-j)
  case measure=>omega
  exact⟨j+1,rfl,by omega,by omega,by rw[b8.1,b8.2];exact d6.out _ _ _ e5.out⟩
 obtain rfl:j=n:=(by omega);have e1:ops.take j=ops:=(by rw[yu (by rw[R.2.2.2.2.2.2.2.2];exact zo _)]);rw[e1]at i;have e6:=aa i;clear i e1;go_wp2_with fail
 go_end0
 exact⟨rfl,e6.out⟩
