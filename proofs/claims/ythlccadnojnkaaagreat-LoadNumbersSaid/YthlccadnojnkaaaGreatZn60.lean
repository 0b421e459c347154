import Derived.Test.YthlccadnojnkaaaGreatZn42
set_option maxHeartbeats 8000000
set_option maxRecDepth 100000
namespace Go.Proofs.YthlccadnojnkaaaGreat
open Go.Proofs.Tryz
open Go Go.RowKit Go.Proofs Co Co.S Par
def d'(k:Int)(n:Nat):Bool:=if k=1∨k=2 then true else if k=3 then decide (n=1)else false
theorem eB(k id:Int)(tb col:ByteArray)(p:Option Addr)(n c:Nat)(W:World):Calls prog 128 #[.agg #[.int .i64 k,.string tb,.int .i64 id,.string col,.slice p n c]] W fun e w'=>e=.returned (.bool (d' k n))/\Below W.heap.size W w':=by
 unfold d';have b:=aD W (.cells #[.int .i64 k,.string tb,.int .i64 id,.string col,.slice p n c] 29);have f:=z7 W (.cells #[.int .i64 k,.string tb,.int .i64 id,.string col,.slice p n c] 29);obtain⟨l,d⟩:=ag (W.alloc (.cells #[.int .i64 k,.string tb,.int .i64 id,.string col,.slice p n c] 29));obtain⟨B,g⟩:=ag W.heap.size;rw[d]at b f;rw[g]at f;have m:=aA f 0;have o:=aA f 4;have q:=aC f;have a:=aa (ab d (ab g b));clear d b f g;by_cases h:k=1
 ·subst h;go_enter func128,ntmps128;go_upto_region 1 with fail;rw[a.1,a.2.1];go_wp2_with fail;go_ret;exact⟨rfl,a.2.2⟩
 by_cases i:k=2
 ·subst i;go_enter func128,ntmps128;go_upto_region 1 with fail;rw[a.1,a.2.1];go_wp2_with fail;go_ret;exact⟨rfl,a.2.2⟩
 by_cases j:k=3
 ·subst j;go_enter func128,ntmps128;go_upto_region 1 with fail;rw[a.1,a.2.1];go_wp2_with fail;go_ret;refine⟨?_,a.2.2⟩;have e:((n:Int)==1)=decide (n=1):=(by rw[vf];simp;omega);simp[e]
 have r:(k==1)=false:=(by simp[h]);have s:(k==2)=false:=(by simp[i]);have t:(k==3)=false:=(by simp[j]);go_enter func128,ntmps128;go_upto_region 1 with fail;rw[a.1,a.2.1];go_wp2_with fail;go_ret;exact⟨by simp,a.2.2⟩
structure Own (D:World->List PT->(Nat->Nat)->Prop):Prop where
 tn:∀{w w':World} {L:List PT} {O:Nat->Nat} {S:Nat->Prop},D w L O->Tn S w w'->(∀q,S q->O q=0)->D w' L O
 lt:∀{w:World} {L:List PT} {O:Nat->Nat} {q:Nat},D w L O->O q≠0->q<w.heap.size
def PX(D:World->List PT->(Nat->Nat)->Prop)(K:Nat->Prop)(W0 w:World)(L:List PT):Prop:=Own D/\∃O,D w L O/\(∀q,K q->q<W0.heap.size/\O q=0)/\Tn (fun q=>¬ K q) W0 w
def DA(d:Nat)(ts:List T)(ps:List Nat):World->List PT->(Nat->Nat)->Prop:=fun w L O=>∃st,Dd w d ts st O/\st.map (·.1)=ps/\st.map (·.2)=L
def DN(b:Nat)(ts:List T):World->List PT->(Nat->Nat)->Prop:=fun w L O=>∃tt i,ew w b ts tt i O/\tt.map bo=L
section
variable {D:World->List PT->(Nat->Nat)->Prop}{K K' S:Nat->Prop}{W W0 w w':World}{d b j m:Nat}{ts:List T}{ps:List Nat}{L L':List PT}
theorem C1:Own (DA d ts ps):=⟨fun⟨st,h,e⟩ hk hs=>⟨st,h.tn hk hs,e⟩,fun⟨_,h,_⟩ hq=>h.lt _ hq⟩
theorem EH:Own (DN b ts):=⟨fun⟨tt,i,h,e⟩ hk hs=>⟨tt,i,h.tn hk hs,e⟩,fun⟨_,_,h,_⟩ hq=>h.lt _ hq⟩
theorem PX.later(h:PX D K W0 w L)(hb:Below w.heap.size w w'):PX D K W0 w' L:=by
 obtain⟨a,O,b,c,d⟩:=h;exact⟨a,O,a.tn b (Tn.of_below (S:=fun _=>False) hb) (fun _ h=>h.elim),c,d.trans (Tn.of_below (S:=fun _=>False) hb) (fun _ _ h=>h) (fun _ _ h=>h.elim)⟩
theorem PX.with(h:PX D K W0 w L)(hb:Below w.heap.size w w'):PX D (fun q=>K q∨(w.heap.size<=q/\q<w'.heap.size)) w' w' L:=by
 obtain⟨b,O,c,d,e⟩:=h;refine⟨b,O,b.tn c (Tn.of_below (S:=fun _=>False) hb) (fun _ h=>h.elim),fun q a=>?_,Tn.refl _ _⟩;rcases a with a|⟨i,f⟩
 ·exact⟨z9 (z9 (d q a).1 e.size) hb.size,(d q a).2⟩
 exact⟨f,Classical.byContradiction fun g=>by have:=b.lt c g;omega⟩
theorem PX.back(h:PX D K W0 w L)(h2:PX D K' w w' L')(hk:∀q,K q->K' q):PX D K W0 w' L':=by
 obtain⟨_,_,_,b,c⟩:=h;obtain⟨d,O,e,f,g⟩:=h2;exact⟨d,O,e,fun q a=>⟨(b q a).1,(f q (hk q a)).2⟩,c.trans g (fun _ _ h=>h) (fun q _ i a=>i (hk q a))⟩
theorem PX.bel(h:PX D K W0 w L)(hb:Below W.heap.size W W0)(hk:∀q,q<W.heap.size->K q):Below W.heap.size W w:=by
 obtain⟨_,_,_,_,a⟩:=h;exact hb.trans (a.chg.below hb.size (fun q d b=>Classical.byContradiction fun c=>b (hk q (by omega))))
theorem PX.still(h:PX D K W0 w L){q:Nat}(hq:K q):w.heap[q]?=W0.heap[q]?:=by
 obtain⟨_,_,_,a,b⟩:=h;exact b.chg.block q (a q hq).1 (fun c=>c hq)
theorem PX.klt(h:PX D K W0 w L){q:Nat}(hq:K q):q<W0.heap.size:=by
 obtain⟨_,_,_,a,_⟩:=h;exact(a q hq).1
theorem PX.szle(h:PX D K W0 w L):W0.heap.size<=w.heap.size:=by
 obtain⟨_,_,_,_,a⟩:=h;exact a.size
theorem PX.BN(h:PX D K w w L)(hT:Tn S w w')(hS:∀q,q<w.heap.size->S q->K q):PX D (fun q=>K q∨(w.heap.size<=q/\q<w'.heap.size)) w' w' L/\PX D (fun q=>K q/\¬ S q) w w' L:=by
 obtain⟨b,O,e,c,j⟩:=h;have f:=b.tn e (hT.mono (T1:=fun q=>S q/\q<w.heap.size) (fun q g a=>⟨a,g⟩)) (fun q a=>(c q (hS q a.2 a.1)).2);have k:=hT.size;refine⟨⟨b,O,f,fun q a=>?_,Tn.refl _ _⟩,b,O,f,fun q a=>c q a.1,hT.mono (fun q g a d=>d.2 a)⟩;rcases a with a|⟨l,i⟩
 ·exact⟨by have:=(c q a).1;omega,(c q a).2⟩
 exact⟨i,Classical.byContradiction fun d=>by have:=b.lt e d;omega⟩
theorem PX.turn(h:PX D K W0 w L){f:FuncId}{args:Array Value}{R:Ending->Prop}(hc:∀O,D w L O->(∀q,K q->O q=0)->Calls prog f args w fun e w'=>R e/\∃c,D w' L' c/\Ext w O c/\Tn (fun q=>O q≠0) w w'):Calls prog f args w fun e w'=>R e/\PX D K W0 w' L':=by
 obtain⟨g,O,i,b,d⟩:=h;refine(hc O i (fun q a=>(b q a).2)).mono ?_;rintro e w'⟨j,c,k,l,hT⟩;exact⟨j,g,c,k,fun q a=>⟨(b q a).1,(l q (z9 (b q a).1 d.size)).trans (b q a).2⟩,d.trans hT (fun _ _ h=>h) (fun q _ a m=>a (b q m).2)⟩
theorem PX.BJ(h:PX (DA d ts ps) K W0 w L):ps.length=ts.length/\L.length=ts.length:=by
 obtain⟨_,O,⟨b,a,rfl,rfl⟩,_⟩:=h;exact⟨by rw[yh];exact a.len,by rw[yh];exact a.len⟩
theorem PX.ux(h:PX (DN b ts) K W0 w L):L.length=ts.length:=by
 obtain⟨_,O,⟨c,i,a,rfl⟩,_⟩:=h;rw[yh];exact a.n
theorem PX.table(h:PX (DA d ts ps) K W0 w L)(hj:j<ts.length)(hx:ts[j].nm.size<=maxLen)(hp:j<ps.length):Calls prog 29 #[.pointer (some ⟨d,0,none⟩),.string ts[j].nm] w fun e w'=>e=.returned (.pointer (some ⟨ps[j],0,none⟩))/\w'=w:=by
 obtain⟨_,O,⟨b,a,rfl,rfl⟩,_⟩:=h;rw[xa];exact a.table hj hx (by rw[a.len];exact hj)
theorem PX.Cs(h:PX (DA d ts ps) K W0 w L)(hj:j<ts.length)(hp:j<ps.length)(hL:j<L.length){v:Value}{vals:List T3}(hv:eb S w v vals)(hS:∀q,S q->K q)(hm:dw m L[j])(hm3:m<=590)(hc:ts[j].cols.length<=1000)(hs:∀x∈vals,x.2.2.size<=maxLen)(hl:vals.length<=1000000):Calls prog 37 #[.pointer (some ⟨ps[j],0,none⟩),v] w fun e w'=>e=.returned (.tuple #[.int .i64 (jx ts[j] L[j] vals),.int .i64 (dj ts[j] vals)])/\PX (DA d ts ps) K W0 w' (L.set j (gj ts[j] L[j] vals)):=by
 refine h.turn (R:=fun e=>e=.returned (.tuple #[.int .i64 (jx ts[j] L[j] vals),.int .i64 (dj ts[j] vals)])) (fun O b g=>?_);clear h;obtain⟨f,b,rfl,rfl⟩:=b;have a:j<f.length:=(by rw[b.len];exact hj);simp only[xa]at hm ⊢;refine(b.gj hj a hv (fun q c=>g q (hS q c)) hm hm3 hc hs hl).mono ?_;rintro e w'⟨rfl,i,k,l,n⟩;obtain⟨o,p⟩:=kI a (gj ts[j] f[j].2 vals);exact⟨rfl,i,⟨_,k,o,p⟩,l,n.mono (fun q _ c=>by have c:O q=j+2:=c;show O q≠0;omega)⟩
theorem PX.Cg(h:PX (DA d ts ps) K W0 w L)(hj:j<ts.length)(hp:j<ps.length)(hL:j<L.length){id:Int}(hid:kj id)(hm:dw m L[j])(hm3:m<=590)(hc:ts[j].cols.length<=1000):Calls prog 39 #[.pointer (some ⟨ps[j],0,none⟩),.int .i64 id] w fun e w'=>e=.returned (.bool (dg L[j].2 id))/\PX (DA d ts ps) K W0 w' (L.set j (kh L[j] id)):=by
 refine h.turn (R:=fun e=>e=.returned (.bool (dg L[j].2 id))) (fun O b p=>?_);clear h;obtain⟨c,b,rfl,rfl⟩:=b;have a:j<c.length:=(by rw[b.len];exact hj);simp only[xa]at hm ⊢;refine(b.kh hj a hid hm hm3 hc).mono ?_;rintro e w'⟨rfl,g,i,k,l⟩;obtain⟨n,o⟩:=kI a (kh c[j].2 id);exact⟨rfl,g,⟨_,i,n,o⟩,k,l.mono (fun q _ f=>by have f:O q=j+2:=f;show O q≠0;omega)⟩
theorem PX.im(h:PX (DA d ts ps) K W0 w L)(hj:j<ts.length)(hp:j<ps.length)(hL:j<L.length){id:Int}(hid:kj id)(y:ByteArray)(u:T3)(hs:u.2.2.size<=maxLen)(hm:dw m L[j])(hm3:m<=590):Calls prog 41 #[.pointer (some ⟨ps[j],0,none⟩),.int .i64 id,.string y,.agg #[.int .i64 u.1,.int .i64 u.2.1,.string u.2.2]] w fun e w'=>e=.returned (.int .i64 (jt ts[j] L[j].2 id y u))/\PX (DA d ts ps) K W0 w' (L.set j (js ts[j] L[j] id y u)):=by
 refine h.turn (R:=fun e=>e=.returned (.int .i64 (jt ts[j] L[j].2 id y u))) (fun O b p=>?_);clear h;obtain⟨c,b,rfl,rfl⟩:=b;have a:j<c.length:=(by rw[b.len];exact hj);simp only[xa]at hm ⊢;refine(b.js hj a hid y u hs hm hm3).mono ?_;rintro e w'⟨rfl,g,i,k,l⟩;obtain⟨n,o⟩:=kI a (js ts[j] c[j].2 id y u);exact⟨rfl,g,⟨_,i,n,o⟩,k,l.mono (fun q _ f=>by have f:O q=j+2:=f;show O q≠0;omega)⟩
theorem PX.jx(h:PX (DN b ts) K W0 w L)(hj:j<ts.length)(hL:j<L.length){v:Value}{vals:List T3}(hv:eb S w v vals)(hS:∀q,S q->K q)(hm:dw m L[j])(hm3:m<=590)(hc:ts[j].cols.length<=1000)(h0:0<ts[j].cols.length)(hs:∀x∈vals,x.2.2.size<=maxLen)(hl:vals.length<=1000000):Calls prog 38 #[.pointer (some ⟨b,0,none⟩),.int .i64 (j:Int),v] w fun e w'=>e=.returned (.tuple #[.int .i64 (YthlccadnojnkaaaGreat.jx ts[j] L[j] vals),.int .i64 (dj ts[j] vals)])/\PX (DN b ts) K W0 w' (L.set j (gj ts[j] L[j] vals)):=by
 refine h.turn (R:=fun e=>e=.returned (.tuple #[.int .i64 (YthlccadnojnkaaaGreat.jx ts[j] L[j] vals),.int .i64 (dj ts[j] vals)])) (fun O a f=>?_);clear h;obtain⟨g,i,a,rfl⟩:=a;have c:j<g.length:=(by rw[a.n];exact hj);simp only[xa]at hm ⊢;refine(a.gj hj c hv (fun q k=>f q (hS q k)) hm hm3 hc h0 hs hl).mono ?_;rintro e w'⟨rfl,d,l,o,p,r,s⟩;exact⟨rfl,l,⟨d,i,o,p⟩,r,s⟩
theorem PX.Bd(h:PX (DN b ts) K W0 w L)(hj:j<ts.length)(hL:j<L.length)(id:Int)(hm:dw m L[j])(hm3:m<=590):Calls prog 40 #[.pointer (some ⟨b,0,none⟩),.int .i64 (j:Int),.int .i64 id] w fun e w'=>e=.returned (.bool (dg L[j].2 id))/\PX (DN b ts) K W0 w' (L.set j (kh L[j] id)):=by
 refine h.turn (R:=fun e=>e=.returned (.bool (dg L[j].2 id))) (fun O a q=>?_);clear h;obtain⟨f,i,a,rfl⟩:=a;have c:j<f.length:=(by rw[a.n];exact hj);simp only[xa]at hm ⊢;refine(a.kh hj c id hm hm3).mono ?_;rintro e w'⟨rfl,d,g,k,l,o,p⟩;exact⟨rfl,g,⟨d,i,k,l⟩,o,p⟩
theorem PX.Ba(h:PX (DN b ts) K W0 w L)(hj:j<ts.length)(hL:j<L.length)(id:Int)(y:ByteArray)(u:T3)(hs:u.2.2.size<=maxLen)(h0:0<ts[j].cols.length)(hm:dw m L[j])(hm3:m<=590):Calls prog 42 #[.pointer (some ⟨b,0,none⟩),.int .i64 (j:Int),.int .i64 id,.string y,.agg #[.int .i64 u.1,.int .i64 u.2.1,.string u.2.2]] w fun e w'=>e=.returned (.int .i64 (jt ts[j] L[j].2 id y u))/\PX (DN b ts) K W0 w' (L.set j (js ts[j] L[j] id y u)):=by
 refine h.turn (R:=fun e=>e=.returned (.int .i64 (jt ts[j] L[j].2 id y u))) (fun O a q=>?_);clear h;obtain⟨f,i,a,rfl⟩:=a;have c:j<f.length:=(by rw[a.n];exact hj);simp only[xa]at hm ⊢;refine(a.js hj c id y u hs h0 hm hm3).mono ?_;rintro e w'⟨rfl,d,g,k,l,o,p⟩;exact⟨rfl,g,⟨d,i,k,l⟩,o,p⟩
end
def py(ts:List T)(L:List PT)(o:cx):Int×Int:=
 if d' o.dO o.vals.length=false then(0,1)else match ts[(ky ts o.tbl).toNat]?,L[(ky ts o.tbl).toNat]? with
 | some t,some x=>if ky ts o.tbl<0 then(0,3)else if o.dO=1 then(jx t x o.vals,dj t o.vals)else if o.dO=2 then(0,if dg x.2 o.id=true then 0 else 6)else(0,jt t x.2 o.id o.col (o.vals.getD 0 z3))
 | _,_=>(0,3)
def sf(ts:List T)(L:List PT)(o:cx):List PT:=if d' o.dO o.vals.length=true then lh ts L o else L
section
variable {K:Nat->Prop}{W0 w:World}{d b m:Nat}{ts:List T}{ps:List Nat}{L1 L2:List PT}{S:Nat->Prop}{vv:Value}{o:cx}
theorem vE(h:PX (DA d ts ps) K W0 w L1)(hv:eb S w vv o.vals)(hf:d' o.dO o.vals.length=false):Calls prog 94 #[.pointer (some ⟨d,0,none⟩),.agg #[.int .i64 o.dO,.string o.tbl,.int .i64 o.id,.string o.col,vv]] w fun e w'=>e=.returned (.tuple #[.int .i64 (py ts L1 o).1,.int .i64 (py ts L1 o).2])/\PX (DA d ts ps) K W0 w' (sf ts L1 o):=by
 unfold py sf;rw[zv hf,zq (by rw[hf];decide)];obtain⟨p,c,rfl,_,_⟩:=hv.slice;obtain⟨n,l⟩:=ag o.vals.length;rw[l]at hf ⊢;have f:=aD w (.cells #[.int .i64 o.dO,.string o.tbl,.int .i64 o.id,.string o.col,.slice p n c] 29);have b:=z7 w (.cells #[.int .i64 o.dO,.string o.tbl,.int .i64 o.id,.string o.col,.slice p n c] 29);obtain⟨m,g⟩:=ag (w.alloc (.cells #[.int .i64 o.dO,.string o.tbl,.int .i64 o.id,.string o.col,.slice p n c] 29));obtain⟨B,k⟩:=ag w.heap.size;rw[g]at f b;rw[k]at b;have a:=eB o.dO o.id o.tbl o.col p n c m;rw[hf]at a;have r:=aA b 0;have s:=aA b 1;have t:=aA b 2;have u:=aA b 3;have v:=aA b 4;have x:=aC b;have j:=aa (ab g (ab k (ab f h)));clear g f b k h hv l hf;go_enter func94,ntmps94;go_upto_region 1 with fail;rw[j.1,j.2.1];go_wp2_with (go_at_call 128;refine a.mono ?_;rintro e y⟨rfl,i⟩;have q:=aa (aB j.2.2.1 i);clear a i);go_ret2;exact⟨rfl,j.2.2.2.later q.out⟩
end
section
variable {w:World}{d n c pt:Nat}{id r1 r2:Int}{tb col:ByteArray}{p:Option Addr}{Q:World->Prop}
theorem GN{k:Int}(hf:d' k n=true)(a:∀j,Below w.heap.size w j->Calls prog 29 #[.pointer (some ⟨d,0,none⟩),.string tb] j fun e w'=>e=.returned (.pointer none)/\Q w'):Calls prog 94 #[.pointer (some ⟨d,0,none⟩),.agg #[.int .i64 k,.string tb,.int .i64 id,.string col,.slice p n c]] w fun e w'=>e=.returned (.tuple #[.int .i64 0,.int .i64 3])/\Q w':=by
 have g:=aD w (.cells #[.int .i64 k,.string tb,.int .i64 id,.string col,.slice p n c] 29);have f:=z7 w (.cells #[.int .i64 k,.string tb,.int .i64 id,.string col,.slice p n c] 29);obtain⟨j,h⟩:=ag (w.alloc (.cells #[.int .i64 k,.string tb,.int .i64 id,.string col,.slice p n c] 29));obtain⟨B,m⟩:=ag w.heap.size;rw[h]at g f;rw[m]at f;have b:=eB k id tb col p n c j;rw[hf]at b;have r:=aA f 0;have s:=aA f 1;have t:=aA f 2;have u:=aA f 3;have v:=aA f 4;have x:=aC f;have l:=aa (ab h (ab m (ab g f)));have y:=aa a;clear h g f m hf a;go_enter func94,ntmps94;go_upto_region 1 with fail;rw[l.1,l.2.1]
 go_wp2_with (first|(go_at_call 128;refine b.mono ?_;rintro e z⟨rfl,i⟩;have o:=aa (ab (aB l.2.2.1 i) (aE i l.2.2.2));have E:=aA o.2 1;have F:=aC o.2;have a:=y.out z o.1;clear b i r s t u v x)|(go_at_call 29;refine a.mono ?_;rintro e G⟨rfl,q⟩;have A:=aa q;clear a q))
 go_ret2;exact⟨rfl,A.out⟩
theorem IE(a:∀h,Below w.heap.size w h->Calls prog 29 #[.pointer (some ⟨d,0,none⟩),.string tb] h fun e w'=>e=.returned (.pointer (some ⟨pt,0,none⟩))/\w'=h)(b:∀h,Below w.heap.size w h->Calls prog 37 #[.pointer (some ⟨pt,0,none⟩),.slice p n c] h fun e w'=>e=.returned (.tuple #[.int .i64 r1,.int .i64 r2])/\Q w'):Calls prog 94 #[.pointer (some ⟨d,0,none⟩),.agg #[.int .i64 1,.string tb,.int .i64 id,.string col,.slice p n c]] w fun e w'=>e=.returned (.tuple #[.int .i64 r1,.int .i64 r2])/\Q w':=by
 have i:=aD w (.cells #[.int .i64 1,.string tb,.int .i64 id,.string col,.slice p n c] 29);have g:=z7 w (.cells #[.int .i64 1,.string tb,.int .i64 id,.string col,.slice p n c] 29);obtain⟨h,j⟩:=ag (w.alloc (.cells #[.int .i64 1,.string tb,.int .i64 id,.string col,.slice p n c] 29));obtain⟨B,o⟩:=ag w.heap.size;rw[j]at i g;rw[o]at g;have f:=eB 1 id tb col p n c h;rw[show d' 1 n=true from rfl]at f;have t:=aA g 0;have u:=aA g 1;have v:=aA g 2;have x:=aA g 3;have y:=aA g 4;have z:=aC g;have m:=aa (ab j (ab o (ab i g)));have q:=aa (ab a b);clear j i g o a b;go_enter func94,ntmps94;go_upto_region 1 with fail;rw[m.1,m.2.1]
 go_wp2_with (first|(go_at_call 128;refine f.mono ?_;rintro e r⟨rfl,k⟩;have l:=aa (ab (aB m.2.2.1 k) (aE k m.2.2.2));have F:=aA l.2 0;have G:=aA l.2 1;have H:=aA l.2 4;have I:=aC l.2;have a:=q.1 r l.1;have b:=q.2 r l.1;clear f k t u v x y z)|(go_at_call 29;refine a.mono ?_;rintro e A⟨rfl,J⟩;subst A;clear a)|(go_at_call 37;refine b.mono ?_;rintro e L⟨rfl,s⟩;have E:=aa s;clear b s))
 go_ret2;exact⟨rfl,E.out⟩
theorem ID{r:Bool}(a:∀h,Below w.heap.size w h->Calls prog 29 #[.pointer (some ⟨d,0,none⟩),.string tb] h fun e w'=>e=.returned (.pointer (some ⟨pt,0,none⟩))/\w'=h)(b:∀h,Below w.heap.size w h->Calls prog 39 #[.pointer (some ⟨pt,0,none⟩),.int .i64 id] h fun e w'=>e=.returned (.bool r)/\Q w'):Calls prog 94 #[.pointer (some ⟨d,0,none⟩),.agg #[.int .i64 2,.string tb,.int .i64 id,.string col,.slice p n c]] w fun e w'=>e=.returned (.tuple #[.int .i64 0,.int .i64 (if r=true then 0 else 6)])/\Q w':=by
 have i:=aD w (.cells #[.int .i64 2,.string tb,.int .i64 id,.string col,.slice p n c] 29);have g:=z7 w (.cells #[.int .i64 2,.string tb,.int .i64 id,.string col,.slice p n c] 29);obtain⟨h,j⟩:=ag (w.alloc (.cells #[.int .i64 2,.string tb,.int .i64 id,.string col,.slice p n c] 29));obtain⟨B,o⟩:=ag w.heap.size;rw[j]at i g;rw[o]at g;have f:=eB 2 id tb col p n c h;rw[show d' 2 n=true from rfl]at f;have v:=aA g 0;have x:=aA g 1;have y:=aA g 2;have z:=aA g 3;have A:=aA g 4;have E:=aC g;have m:=aa (ab j (ab o (ab i g)));have q:=aa (ab a b);clear j i g o a b;go_enter func94,ntmps94;go_upto_region 1 with fail;rw[m.1,m.2.1]
 cases r <;> go_wp2_with (first|(go_at_call 128;refine f.mono ?_;rintro e s⟨rfl,k⟩;have l:=aa (ab (aB m.2.2.1 k) (aE k m.2.2.2));have G:=aA l.2 0;have H:=aA l.2 1;have I:=aA l.2 2;have J:=aC l.2;have a:=q.1 s l.1;have b:=q.2 s l.1;clear f k v x y z A E)|(go_at_call 29;refine a.mono ?_;rintro e F⟨rfl,L⟩;subst F;clear a)|(go_at_call 39;refine b.mono ?_;rintro e M⟨rfl,t⟩;have u:=aa t;clear b t))
 ·go_ret2;exact⟨rfl,u.out⟩
 go_ret2;exact⟨rfl,u.out⟩
theorem Ig{vb vo:Nat}{u:T3}{r:Int}(hv:∀g,Below w.heap.size w g->g.cell? ⟨vb,vo,none⟩=some (.int .i64 u.1)/\g.cell? ⟨vb,vo+1,none⟩=some (.int .i64 u.2.1)/\g.cell? ⟨vb,vo+2,none⟩=some (.string u.2.2)/\vb<g.heap.size)(a:∀g,Below w.heap.size w g->Calls prog 29 #[.pointer (some ⟨d,0,none⟩),.string tb] g fun e w'=>e=.returned (.pointer (some ⟨pt,0,none⟩))/\w'=g)(b:∀g,Below w.heap.size w g->Calls prog 41 #[.pointer (some ⟨pt,0,none⟩),.int .i64 id,.string col,.agg #[.int .i64 u.1,.int .i64 u.2.1,.string u.2.2]] g fun e w'=>e=.returned (.int .i64 r)/\Q w'):Calls prog 94 #[.pointer (some ⟨d,0,none⟩),.agg #[.int .i64 3,.string tb,.int .i64 id,.string col,.slice (some ⟨vb,vo,none⟩) 1 c]] w fun e w'=>e=.returned (.tuple #[.int .i64 0,.int .i64 r])/\Q w':=by
 have k:=aD w (.cells #[.int .i64 3,.string tb,.int .i64 id,.string col,.slice (some ⟨vb,vo,none⟩) 1 c] 29);have i:=z7 w (.cells #[.int .i64 3,.string tb,.int .i64 id,.string col,.slice (some ⟨vb,vo,none⟩) 1 c] 29);obtain⟨g,l⟩:=ag (w.alloc (.cells #[.int .i64 3,.string tb,.int .i64 id,.string col,.slice (some ⟨vb,vo,none⟩) 1 c] 29));obtain⟨B,s⟩:=ag w.heap.size;rw[l]at k i;rw[s]at i;have f:=eB 3 id tb col (some ⟨vb,vo,none⟩) 1 c g;rw[show d' 3 1=true from rfl]at f;have A:=aA i 0;have E:=aA i 1;have F:=aA i 2;have G:=aA i 3;have H:=aA i 4;have I:=aC i;have p:=aa (ab l (ab s (ab k i)));have t:=aa (ab a (ab b hv));clear l k i s a b hv;go_enter func94,ntmps94;go_upto_region 1 with fail;rw[p.1,p.2.1]
 go_upto_region 10 with (first|(go_at_call 128;refine f.mono ?_;rintro e j⟨rfl,m⟩;have n:=aa (ab (aB p.2.2.1 m) (aE m p.2.2.2));have J:=aA n.2 0;have L:=aA n.2 1;have M:=aC n.2;have a:=t.1 j n.1;clear f m A E F G H I)|(go_at_call 29;refine a.mono ?_;rintro e N⟨rfl,q⟩;subst N;clear a))
 clear J L M;have o:Hid (∀w',Below j.heap.size j w'->w'.heap[B]?=some (.cells #[.int .i64 3,.string tb,.int .i64 id,.string col,.slice (some ⟨vb,vo,none⟩) 1 c] 29)):=aa (fun w' q=>aE q n.2);have v:Hid (∀w',Below j.heap.size j w'->_):=aa (fun w' q=>t.2.2 w' (aB n.1 q));have O:(0:Int)<1:=(by decide);refine ae 9 [.pointer (some ⟨pt,0,none⟩),.pointer (some ⟨B,2,none⟩),.int .i64 id,.pointer (some ⟨B,3,none⟩),.string col,.pointer (some ⟨B,4,none⟩),.slice (some ⟨vb,vo,none⟩) 1 c,.pointer (some ⟨vb,vo,none⟩),.agg #[.int .i64 u.1,.int .i64 u.2.1,.string u.2.2]] (fun w=>Below j.heap.size j w) ?A1 ?hm1 ?hB1 ?hA1 (aF j) ?hop1 ?hT1
 case hm1=>kernel_rfl
 case hB1=>kernel_rfl
 case hA1 =>
  simp only[am,ai,Act.put,cy,db,bt,cp,dc,da,bu,eg,ed];rfl
 case hop1 =>
  simp only[ce,ze,ah,yu];and_intros<;>intro w' h<;>have P:=aa h
  rotate_left;have y:=aC (o.out w' h);rotate_left;have x:=aA (o.out w' h) 2;rotate_left;have y:=aC (o.out w' h);rotate_left;have x:=aA (o.out w' h) 3;rotate_left;have y:=aC (o.out w' h);rotate_left;have x:=aA (o.out w' h) 4;rotate_left 2;have x:=(v.out w' h).1;have U:=(v.out w' h).2.1;have R:=(v.out w' h).2.2.1;rotate_left
  all_goals(clear h;simp only[Par.Gives];go_simp;all_goals exact P.out)
 intro w' h;simp only[cw,ym];have b:=t.2.1 w' (aB n.1 h);clear h;go_wp2_with (go_at_call 41;refine b.mono ?_;rintro e V⟨rfl,z⟩;have S:=aa z;clear b z);go_ret2;exact⟨rfl,S.out⟩
end
section
variable {w:World}{b n c t:Nat}{id r1 r2:Int}{tb col:ByteArray}{p:Option Addr}{Q:World->Prop}{sv:Value}
theorem rY{k:Int}(hf:d' k n=false):Calls prog 96 #[.pointer (some ⟨b,0,none⟩),.agg #[.int .i64 k,.string tb,.int .i64 id,.string col,.slice p n c]] w fun e w'=>e=.returned (.tuple #[.int .i64 0,.int .i64 1])/\Below w.heap.size w w':=by
 have f:=aD w (.cells #[.int .i64 k,.string tb,.int .i64 id,.string col,.slice p n c] 29);have a:=z7 w (.cells #[.int .i64 k,.string tb,.int .i64 id,.string col,.slice p n c] 29);obtain⟨m,g⟩:=ag (w.alloc (.cells #[.int .i64 k,.string tb,.int .i64 id,.string col,.slice p n c] 29));obtain⟨B,i⟩:=ag w.heap.size;rw[g]at f a;rw[i]at a;have o:=aA a 0;have q:=aA a 1;have r:=aA a 2;have s:=aA a 3;have t:=aA a 4;have u:=aC a;have d:=aa (ab g (ab i (ab f a)));clear g f a i
 have j:k<1∨3<k∨(k=3/\n≠1):=by
  unfold d' at hf;split at hf
  ·cases hf
  split at hf
  ·have:=of_decide_eq_false hf;omega
  omega
 clear hf;rcases j with h|h|⟨rfl,h⟩
 ·go_enter func96,ntmps96;go_upto_region 1 with fail;rw[d.1,d.2.1];have l:decide (k<1)=true:=xd h;go_wp2_with fail;go_ret2;exact⟨rfl,d.2.2.1⟩
 ·have v:¬ k<1:=(by omega);have x:k>3:=(by omega);go_enter func96,ntmps96;go_upto_region 1 with fail;rw[d.1,d.2.1];go_wp2_with fail;go_ret2;exact⟨rfl,d.2.2.1⟩
 have l:((n:Int) != 1)=true:=(by simp;omega);go_enter func96,ntmps96;go_upto_region 1 with fail;rw[d.1,d.2.1];go_wp2_with fail;go_ret2;exact⟨rfl,d.2.2.1⟩
theorem EP(hfind:∀a,Below w.heap.size w a->a.cell? ⟨b,0,none⟩=some sv/\b<a.heap.size/\Calls prog 36 #[sv,.string tb] a fun e w'=>e=.returned (.int .i64 (-1))/\w'=a):Calls prog 96 #[.pointer (some ⟨b,0,none⟩),.agg #[.int .i64 1,.string tb,.int .i64 id,.string col,.slice p n c]] w fun e w'=>e=.returned (.tuple #[.int .i64 0,.int .i64 3])/\Below w.heap.size w w':=by
 have g:=aD w (.cells #[.int .i64 1,.string tb,.int .i64 id,.string col,.slice p n c] 29);have f:=z7 w (.cells #[.int .i64 1,.string tb,.int .i64 id,.string col,.slice p n c] 29);obtain⟨a,h⟩:=ag (w.alloc (.cells #[.int .i64 1,.string tb,.int .i64 id,.string col,.slice p n c] 29));obtain⟨B,l⟩:=ag w.heap.size;rw[h]at g f;rw[l]at f;have r:=aA f 0;have s:=aA f 1;have t:=aA f 2;have u:=aA f 3;have v:=aA f 4;have x:=aC f;have i:=aa (ab h (ab l (ab g f)));have y:=aa (ab hfind trivial);clear h g f l hfind;go_enter func96,ntmps96;go_upto_region 1 with fail;rw[i.1,i.2.1];go_upto_region 3 with fail;clear r s t u v x;have o:Hid (∀w',Below a.heap.size a w'->w'.heap[B]?=some _):=aa (fun w' m=>aE m i.2.2.2);have k:Hid (∀w',Below a.heap.size a w'->_):=aa (fun w' m=>y.1 w' (aB i.2.2.1 m));refine ae 8 [.pointer (some ⟨b,0,none⟩),.pointer (some ⟨b,0,none⟩),.pointer (some ⟨b,0,none⟩),sv,.pointer (some ⟨B,1,none⟩),.string tb,.int .i64 (-1),.int .i64 (-1)] (fun w=>Below a.heap.size a w) ?A1 ?hm1 ?hB1 ?hA1 (aF a) ?hop1 ?hT1
 case hm1=>kernel_rfl
 case hB1=>kernel_rfl
 case hA1 =>
  simp only[am,ai,Act.put,cy,db,bt,cp,dc,da,bu,eg,ed];rfl
 case hop1 =>
  simp only[ce,ze,ah,yu];and_intros<;>intro w' d<;>have j:=aa d
  rotate_left;have q:=(k.out w' d).2.1;rotate_left;have q:=(k.out w' d).2.1;rotate_left;have z:=(k.out w' d).1;rotate_left;have q:=aC (o.out w' d);rotate_left;have z:=aA (o.out w' d) 1;rotate_left
  ·clear d;simp only[Par.Gives];go_simp;exact((k.out w' j.out).2.2).mono (fun e A⟨E,F⟩=>⟨E,F▸j.out⟩)
  rotate_left
  all_goals(clear d;simp only[Par.Gives];go_simp;all_goals exact j.out)
 intro w' d;simp only[cw,yq];have j:=aa (aB i.2.2.1 d);clear d;go_wp2_with fail;go_ret2;exact⟨rfl,j.out⟩
theorem EV(hfind:∀a,Below w.heap.size w a->a.cell? ⟨b,0,none⟩=some sv/\b<a.heap.size/\Calls prog 36 #[sv,.string tb] a fun e w'=>e=.returned (.int .i64 (-1))/\w'=a):Calls prog 96 #[.pointer (some ⟨b,0,none⟩),.agg #[.int .i64 2,.string tb,.int .i64 id,.string col,.slice p n c]] w fun e w'=>e=.returned (.tuple #[.int .i64 0,.int .i64 3])/\Below w.heap.size w w':=by
 have g:=aD w (.cells #[.int .i64 2,.string tb,.int .i64 id,.string col,.slice p n c] 29);have f:=z7 w (.cells #[.int .i64 2,.string tb,.int .i64 id,.string col,.slice p n c] 29);obtain⟨a,h⟩:=ag (w.alloc (.cells #[.int .i64 2,.string tb,.int .i64 id,.string col,.slice p n c] 29));obtain⟨B,l⟩:=ag w.heap.size;rw[h]at g f;rw[l]at f;have r:=aA f 0;have s:=aA f 1;have t:=aA f 2;have u:=aA f 3;have v:=aA f 4;have x:=aC f;have i:=aa (ab h (ab l (ab g f)));have y:=aa (ab hfind trivial);clear h g f l hfind;go_enter func96,ntmps96;go_upto_region 1 with fail;rw[i.1,i.2.1];go_upto_region 3 with fail;clear r s t u v x;have o:Hid (∀w',Below a.heap.size a w'->w'.heap[B]?=some _):=aa (fun w' m=>aE m i.2.2.2);have k:Hid (∀w',Below a.heap.size a w'->_):=aa (fun w' m=>y.1 w' (aB i.2.2.1 m));refine ae 8 [.pointer (some ⟨b,0,none⟩),.pointer (some ⟨b,0,none⟩),.pointer (some ⟨b,0,none⟩),sv,.pointer (some ⟨B,1,none⟩),.string tb,.int .i64 (-1),.int .i64 (-1)] (fun w=>Below a.heap.size a w) ?A2 ?hm2 ?hB2 ?hA2 (aF a) ?hop2 ?hT2
 case hm2=>kernel_rfl
 case hB2=>kernel_rfl
 case hA2 =>
  simp only[am,ai,Act.put,cy,db,bt,cp,dc,da,bu,eg,ed];rfl
 case hop2 =>
  simp only[ce,ze,ah,yu];and_intros<;>intro w' d<;>have j:=aa d
  rotate_left;have q:=(k.out w' d).2.1;rotate_left;have q:=(k.out w' d).2.1;rotate_left;have z:=(k.out w' d).1;rotate_left;have q:=aC (o.out w' d);rotate_left;have z:=aA (o.out w' d) 1;rotate_left
  ·clear d;simp only[Par.Gives];go_simp;exact((k.out w' j.out).2.2).mono (fun e A⟨E,F⟩=>⟨E,F▸j.out⟩)
  rotate_left
  all_goals(clear d;simp only[Par.Gives];go_simp;all_goals exact j.out)
 intro w' d;simp only[cw,yq];have j:=aa (aB i.2.2.1 d);clear d;go_wp2_with fail;go_ret2;exact⟨rfl,j.out⟩
theorem Ib(hfind:∀a,Below w.heap.size w a->a.cell? ⟨b,0,none⟩=some sv/\b<a.heap.size/\Calls prog 36 #[sv,.string tb] a fun e w'=>e=.returned (.int .i64 (-1))/\w'=a):Calls prog 96 #[.pointer (some ⟨b,0,none⟩),.agg #[.int .i64 3,.string tb,.int .i64 id,.string col,.slice p 1 c]] w fun e w'=>e=.returned (.tuple #[.int .i64 0,.int .i64 3])/\Below w.heap.size w w':=by
 have g:=aD w (.cells #[.int .i64 3,.string tb,.int .i64 id,.string col,.slice p 1 c] 29);have f:=z7 w (.cells #[.int .i64 3,.string tb,.int .i64 id,.string col,.slice p 1 c] 29);obtain⟨a,h⟩:=ag (w.alloc (.cells #[.int .i64 3,.string tb,.int .i64 id,.string col,.slice p 1 c] 29));obtain⟨B,l⟩:=ag w.heap.size;rw[h]at g f;rw[l]at f;have q:=aA f 0;have r:=aA f 1;have s:=aA f 2;have t:=aA f 3;have u:=aA f 4;have v:=aC f;have i:=aa (ab h (ab l (ab g f)));have x:=aa (ab hfind trivial);clear h g f l hfind;go_enter func96,ntmps96;go_upto_region 1 with fail;rw[i.1,i.2.1];go_upto_region 3 with fail;clear q r s t u v;have n:Hid (∀w',Below a.heap.size a w'->w'.heap[B]?=some _):=aa (fun w' m=>aE m i.2.2.2);have k:Hid (∀w',Below a.heap.size a w'->_):=aa (fun w' m=>x.1 w' (aB i.2.2.1 m));refine ae 8 [.pointer (some ⟨b,0,none⟩),.pointer (some ⟨b,0,none⟩),.pointer (some ⟨b,0,none⟩),sv,.pointer (some ⟨B,1,none⟩),.string tb,.int .i64 (-1),.int .i64 (-1)] (fun w=>Below a.heap.size a w) ?A3 ?hm3 ?hB3 ?hA3 (aF a) ?hop3 ?hT3
 case hm3=>kernel_rfl
 case hB3=>kernel_rfl
 case hA3 =>
  simp only[am,ai,Act.put,cy,db,bt,cp,dc,da,bu,eg,ed];rfl
 case hop3 =>
  simp only[ce,ze,ah,yu];and_intros<;>intro w' d<;>have j:=aa d
  rotate_left;have o:=(k.out w' d).2.1;rotate_left;have o:=(k.out w' d).2.1;rotate_left;have y:=(k.out w' d).1;rotate_left;have o:=aC (n.out w' d);rotate_left;have y:=aA (n.out w' d) 1;rotate_left
  ·clear d;simp only[Par.Gives];go_simp;exact((k.out w' j.out).2.2).mono (fun e z⟨A,E⟩=>⟨A,E▸j.out⟩)
  rotate_left
  all_goals(clear d;simp only[Par.Gives];go_simp;all_goals exact j.out)
 intro w' d;simp only[cw,yq];have j:=aa (aB i.2.2.1 d);clear d;go_wp2_with fail;go_ret2;exact⟨rfl,j.out⟩
theorem Fl(hfind:∀d,Below w.heap.size w d->d.cell? ⟨b,0,none⟩=some sv/\b<d.heap.size/\Calls prog 36 #[sv,.string tb] d fun e w'=>e=.returned (.int .i64 (t:Int))/\w'=d)(a:∀d,Below w.heap.size w d->Calls prog 38 #[.pointer (some ⟨b,0,none⟩),.int .i64 (t:Int),.slice p n c] d fun e w'=>e=.returned (.tuple #[.int .i64 r1,.int .i64 r2])/\Q w'):Calls prog 96 #[.pointer (some ⟨b,0,none⟩),.agg #[.int .i64 1,.string tb,.int .i64 id,.string col,.slice p n c]] w fun e w'=>e=.returned (.tuple #[.int .i64 r1,.int .i64 r2])/\Q w':=by
 have i:=aD w (.cells #[.int .i64 1,.string tb,.int .i64 id,.string col,.slice p n c] 29);have g:=z7 w (.cells #[.int .i64 1,.string tb,.int .i64 id,.string col,.slice p n c] 29);obtain⟨d,j⟩:=ag (w.alloc (.cells #[.int .i64 1,.string tb,.int .i64 id,.string col,.slice p n c] 29));obtain⟨B,o⟩:=ag w.heap.size;rw[j]at i g;rw[o]at g;have v:=aA g 0;have x:=aA g 1;have y:=aA g 2;have z:=aA g 3;have A:=aA g 4;have E:=aC g;have l:=aa (ab j (ab o (ab i g)));have r:=aa (ab hfind a);clear j i g o hfind a;have F:¬ (t:Int)<0:=(by omega);go_enter func96,ntmps96;go_upto_region 1 with fail;rw[l.1,l.2.1];go_upto_region 3 with fail;clear v x y z A E;have k:Hid (∀w',Below d.heap.size d w'->w'.heap[B]?=some _):=aa (fun w' q=>aE q l.2.2.2);have m:Hid (∀w',Below d.heap.size d w'->_):=aa (fun w' q=>r.1 w' (aB l.2.2.1 q));refine ae 8 [.pointer (some ⟨b,0,none⟩),.pointer (some ⟨b,0,none⟩),.pointer (some ⟨b,0,none⟩),sv,.pointer (some ⟨B,1,none⟩),.string tb,.int .i64 (t:Int),.int .i64 (t:Int)] (fun w=>Below d.heap.size d w) ?A4 ?hm4 ?hB4 ?hA4 (aF d) ?hop4 ?hT4
 case hm4=>kernel_rfl
 case hB4=>kernel_rfl
 case hA4 =>
  simp only[am,ai,Act.put,cy,db,bt,cp,dc,da,bu,eg,ed];rfl
 case hop4 =>
  simp only[ce,ze,ah,yu];and_intros<;>intro w' f<;>have h:=aa f
  rotate_left;have s:=(m.out w' f).2.1;rotate_left;have s:=(m.out w' f).2.1;rotate_left;have G:=(m.out w' f).1;rotate_left;have s:=aC (k.out w' f);rotate_left;have G:=aA (k.out w' f) 1;rotate_left
  ·clear f;simp only[Par.Gives];go_simp;exact((m.out w' h.out).2.2).mono (fun e H⟨I,J⟩=>⟨I,J▸h.out⟩)
  rotate_left
  all_goals(clear f;simp only[Par.Gives];go_simp;all_goals exact h.out)
 intro w' f;simp only[cw,yq];have h:=aa f;have M:=aA (k.out w' h.out) 0;have N:=aA (k.out w' h.out) 1;have O:=aA (k.out w' h.out) 2;have P:=aA (k.out w' h.out) 4;have R:=aC (k.out w' h.out);clear f;have a:=r.2 w' (aB l.2.2.1 h.out);go_wp2_with (go_at_call 38;refine a.mono ?_;rintro e S⟨rfl,u⟩;have L:=aa u;clear a u);go_ret2;exact⟨rfl,L.out⟩
theorem JD{r:Bool}(hfind:∀d,Below w.heap.size w d->d.cell? ⟨b,0,none⟩=some sv/\b<d.heap.size/\Calls prog 36 #[sv,.string tb] d fun e w'=>e=.returned (.int .i64 (t:Int))/\w'=d)(a:∀d,Below w.heap.size w d->Calls prog 40 #[.pointer (some ⟨b,0,none⟩),.int .i64 (t:Int),.int .i64 id] d fun e w'=>e=.returned (.bool r)/\Q w'):Calls prog 96 #[.pointer (some ⟨b,0,none⟩),.agg #[.int .i64 2,.string tb,.int .i64 id,.string col,.slice p n c]] w fun e w'=>e=.returned (.tuple #[.int .i64 0,.int .i64 (if r=true then 0 else 6)])/\Q w':=by
 have i:=aD w (.cells #[.int .i64 2,.string tb,.int .i64 id,.string col,.slice p n c] 29);have g:=z7 w (.cells #[.int .i64 2,.string tb,.int .i64 id,.string col,.slice p n c] 29);obtain⟨d,j⟩:=ag (w.alloc (.cells #[.int .i64 2,.string tb,.int .i64 id,.string col,.slice p n c] 29));obtain⟨B,o⟩:=ag w.heap.size;rw[j]at i g;rw[o]at g;have y:=aA g 0;have z:=aA g 1;have A:=aA g 2;have E:=aA g 3;have F:=aA g 4;have G:=aC g;have l:=aa (ab j (ab o (ab i g)));have s:=aa (ab hfind a);clear j i g o hfind a;have H:¬ (t:Int)<0:=(by omega);go_enter func96,ntmps96;go_upto_region 1 with fail;rw[l.1,l.2.1];go_upto_region 3 with fail;clear y z A E F G;have k:Hid (∀w',Below d.heap.size d w'->w'.heap[B]?=some _):=aa (fun w' q=>aE q l.2.2.2);have m:Hid (∀w',Below d.heap.size d w'->_):=aa (fun w' q=>s.1 w' (aB l.2.2.1 q));refine ae 8 [.pointer (some ⟨b,0,none⟩),.pointer (some ⟨b,0,none⟩),.pointer (some ⟨b,0,none⟩),sv,.pointer (some ⟨B,1,none⟩),.string tb,.int .i64 (t:Int),.int .i64 (t:Int)] (fun w=>Below d.heap.size d w) ?A5 ?hm5 ?hB5 ?hA5 (aF d) ?hop5 ?hT5
 case hm5=>kernel_rfl
 case hB5=>kernel_rfl
 case hA5 =>
  simp only[am,ai,Act.put,cy,db,bt,cp,dc,da,bu,eg,ed];rfl
 case hop5 =>
  simp only[ce,ze,ah,yu];and_intros<;>intro w' f<;>have h:=aa f
  rotate_left;have u:=(m.out w' f).2.1;rotate_left;have u:=(m.out w' f).2.1;rotate_left;have I:=(m.out w' f).1;rotate_left;have u:=aC (k.out w' f);rotate_left;have I:=aA (k.out w' f) 1;rotate_left
  ·clear f;simp only[Par.Gives];go_simp;exact((m.out w' h.out).2.2).mono (fun e J⟨L,M⟩=>⟨L,M▸h.out⟩)
  rotate_left
  all_goals(clear f;simp only[Par.Gives];go_simp;all_goals exact h.out)
 intro w' f;simp only[cw,yq];have h:=aa f;have N:=aA (k.out w' h.out) 0;have O:=aA (k.out w' h.out) 1;have P:=aA (k.out w' h.out) 2;have R:=aA (k.out w' h.out) 4;have S:=aC (k.out w' h.out);clear f;have a:=s.2 w' (aB l.2.2.1 h.out);cases r <;> go_wp2_with (go_at_call 40;refine a.mono ?_;rintro e U⟨rfl,v⟩;have x:=aa v;clear a v)
 ·go_ret2;exact⟨rfl,x.out⟩
 go_ret2;exact⟨rfl,x.out⟩
theorem FE{vb vo:Nat}{u:T3}{r:Int}(hfind:∀d,Below w.heap.size w d->d.cell? ⟨b,0,none⟩=some sv/\b<d.heap.size/\Calls prog 36 #[sv,.string tb] d fun e w'=>e=.returned (.int .i64 (t:Int))/\w'=d)(hv:∀d,Below w.heap.size w d->d.cell? ⟨vb,vo,none⟩=some (.int .i64 u.1)/\d.cell? ⟨vb,vo+1,none⟩=some (.int .i64 u.2.1)/\d.cell? ⟨vb,vo+2,none⟩=some (.string u.2.2)/\vb<d.heap.size)(f:∀d,Below w.heap.size w d->Calls prog 42 #[.pointer (some ⟨b,0,none⟩),.int .i64 (t:Int),.int .i64 id,.string col,.agg #[.int .i64 u.1,.int .i64 u.2.1,.string u.2.2]] d fun e w'=>e=.returned (.int .i64 r)/\Q w'):Calls prog 96 #[.pointer (some ⟨b,0,none⟩),.agg #[.int .i64 3,.string tb,.int .i64 id,.string col,.slice (some ⟨vb,vo,none⟩) 1 c]] w fun e w'=>e=.returned (.tuple #[.int .i64 0,.int .i64 r])/\Q w':=by
 have k:=aD w (.cells #[.int .i64 3,.string tb,.int .i64 id,.string col,.slice (some ⟨vb,vo,none⟩) 1 c] 29);have i:=z7 w (.cells #[.int .i64 3,.string tb,.int .i64 id,.string col,.slice (some ⟨vb,vo,none⟩) 1 c] 29);obtain⟨d,l⟩:=ag (w.alloc (.cells #[.int .i64 3,.string tb,.int .i64 id,.string col,.slice (some ⟨vb,vo,none⟩) 1 c] 29));obtain⟨B,v⟩:=ag w.heap.size;rw[l]at k i;rw[v]at i;have E:=aA i 0;have F:=aA i 1;have G:=aA i 2;have H:=aA i 3;have I:=aA i 4;have J:=aC i;have o:=aa (ab l (ab v (ab k i)));have y:=aa (ab hfind (ab f hv));clear l k i v hfind f hv;have L:¬ (t:Int)<0:=(by omega);go_enter func96,ntmps96;go_upto_region 1 with fail;rw[o.1,o.2.1];go_upto_region 3 with fail;clear E F G H I J;have j:Hid (∀w',Below d.heap.size d w'->w'.heap[B]?=some _):=aa (fun w' m=>aE m o.2.2.2);have s:Hid (∀w',Below d.heap.size d w'->_):=aa (fun w' m=>y.1 w' (aB o.2.2.1 m));refine ae 8 [.pointer (some ⟨b,0,none⟩),.pointer (some ⟨b,0,none⟩),.pointer (some ⟨b,0,none⟩),sv,.pointer (some ⟨B,1,none⟩),.string tb,.int .i64 (t:Int),.int .i64 (t:Int)] (fun w=>Below d.heap.size d w) ?A6 ?hm6 ?hB6 ?hA6 (aF d) ?hop6 ?hT6
 case hm6=>kernel_rfl
 case hB6=>kernel_rfl
 case hA6 =>
  simp only[am,ai,Act.put,cy,db,bt,cp,dc,da,bu,eg,ed];rfl
 case hop6 =>
  simp only[ce,ze,ah,yu];and_intros<;>intro w' a<;>have g:=aa a
  rotate_left;have p:=(s.out w' a).2.1;rotate_left;have p:=(s.out w' a).2.1;rotate_left;have q:=(s.out w' a).1;rotate_left;have p:=aC (j.out w' a);rotate_left;have q:=aA (j.out w' a) 1;rotate_left
  ·clear a;simp only[Par.Gives];go_simp;exact((s.out w' g.out).2.2).mono (fun e M⟨N,O⟩=>⟨N,O▸g.out⟩)
  rotate_left
  all_goals(clear a;simp only[Par.Gives];go_simp;all_goals exact g.out)
 intro w' a;simp only[cw,yq];have g:=aa a;have P:=aA (j.out w' g.out) 0;have R:=aA (j.out w' g.out) 1;have S:=aA (j.out w' g.out) 2;have U:=aA (j.out w' g.out) 4;have V:=aC (j.out w' g.out);clear a;have W:(0:Int)<1:=(by decide);go_upto_region 13 with fail;clear P R S U V;obtain⟨n,rfl⟩:∃x,x=w':=⟨_,rfl⟩;have h:Hid (∀w',Below n.heap.size n w'->w'.heap[B]?=some _):=aa (fun w' m=>j.out w' (aB g.out m));have z:Hid (∀w',Below n.heap.size n w'->_):=aa (fun w' m=>y.2.2 w' (aB o.2.2.1 (aB g.out m)));refine ae 10 [.pointer (some ⟨b,0,none⟩),.int .i64 (t:Int),.pointer (some ⟨B,2,none⟩),.int .i64 id,.pointer (some ⟨B,3,none⟩),.string col,.pointer (some ⟨B,4,none⟩),.slice (some ⟨vb,vo,none⟩) 1 c,.pointer (some ⟨vb,vo,none⟩),.agg #[.int .i64 u.1,.int .i64 u.2.1,.string u.2.2]] (fun w=>Below n.heap.size n w) ?A7 ?hm7 ?hB7 ?hA7 (aF n) ?hop7 ?hT7
 case hm7=>kernel_rfl
 case hB7=>kernel_rfl
 case hA7 =>
  simp only[am,ai,Act.put,cy,db,bt,cp,dc,da,bu,eg,ed];rfl
 case hop7 =>
  simp only[ce,ze,ah,yu];and_intros<;>intro w' a<;>have g:=aa a
  rotate_left 2;have p:=aC (h.out w' a);rotate_left;have q:=aA (h.out w' a) 2;rotate_left;have p:=aC (h.out w' a);rotate_left;have q:=aA (h.out w' a) 3;rotate_left;have p:=aC (h.out w' a);rotate_left;have q:=aA (h.out w' a) 4;rotate_left 2;have q:=(z.out w' a).1;have Z:=(z.out w' a).2.1;have X:=(z.out w' a).2.2.1;rotate_left
  all_goals(clear a;simp only[Par.Gives];go_simp;all_goals exact g.out)
 intro w' a;simp only[cw,ym];have f:=y.2.1 w' (aB o.2.2.1 (aB g.out a));clear a;go_wp2_with (go_at_call 42;refine f.mono ?_;rintro e w4⟨rfl,A⟩;have Y:=aa A;clear f A);go_ret2;exact⟨rfl,Y.out⟩
end
section
variable {K:Nat->Prop}{W0 w:World}{d b m j:Nat}{ts:List T}{ps:List Nat}{L L1 L2:List PT}{S:Nat->Prop}{vv:Value}{o:cx}
theorem vF(hf:d' o.dO o.vals.length=true)(h:ky ts o.tbl<0):py ts L1 o=(0,3):=by
 unfold py;rw[zq (by rw[hf];decide)];split
 ·rw[zv h]
 rfl
theorem D4(hf:d' o.dO o.vals.length=true)(h:ky ts o.tbl=(j:Int))(hj:j<ts.length)(hL:j<L1.length):py ts L1 o=if o.dO=1 then(jx ts[j] L1[j] o.vals,dj ts[j] o.vals)else if o.dO=2 then(0,if dg L1[j].2 o.id=true then 0 else 6)else(0,jt ts[j] L1[j].2 o.id o.col (o.vals.getD 0 z3)):=by
 unfold py;rw[zq (by rw[hf];decide),h];simp only[v7,z6 hj,z6 hL];rw[zq (by omega)]
theorem eL{k:Int}{n:Nat}(h:d' k n=true):k=1∨k=2∨(k=3/\n=1):=by
 unfold d' at h;split at h
 ·rename_i a;rcases a with a|a
  ·exact .inl a
  exact .inr (.inl a)
 split at h
 ·rename_i b;exact .inr (.inr ⟨b,wj h⟩)
 cases h
theorem vG(hv:eb S w vv o.vals)(h1:o.vals.length=1):∃a b c,vv=.slice (some ⟨a,b,none⟩) 1 c/\∀d,Below w.heap.size w d->d.cell? ⟨a,b,none⟩=some (.int .i64 (o.vals.getD 0 z3).1)/\d.cell? ⟨a,b+1,none⟩=some (.int .i64 (o.vals.getD 0 z3).2.1)/\d.cell? ⟨a,b+2,none⟩=some (.string (o.vals.getD 0 z3).2.2)/\a<d.heap.size:=by
 obtain⟨p,c,rfl,_,_⟩:=hv.slice;obtain⟨a,b,rfl,_,_⟩:=eb.val hv (j:=0) (by omega);have f:o.vals[0]'(by omega)=o.vals.getD 0 z3:=(by rw[zu,z6 (by omega)];rfl);refine⟨a,b,c,by rw[h1],fun d k=>?_⟩;obtain⟨m,n,e,l,g,h,i⟩:=eb.val (hv.later k) (j:=0) (by omega);cases e;rw[f]at g h i;exact⟨g,h,i,l⟩
theorem Fr(h:PX (DA d ts ps) K W0 w L1)(hfew:di ts)(hsz:Short ts)(hcs:∀t∈ts,0<t.cols.length/\t.cols.length<=1000)(hsm:∀x∈L1,dw m x)(hm:m<=590)(hok:ir o)(hv:eb S w vv o.vals)(hS:∀q,S q->K q):Calls prog 94 #[.pointer (some ⟨d,0,none⟩),.agg #[.int .i64 o.dO,.string o.tbl,.int .i64 o.id,.string o.col,vv]] w fun e w'=>e=.returned (.tuple #[.int .i64 (py ts L1 o).1,.int .i64 (py ts L1 o).2])/\PX (DA d ts ps) K W0 w' (sf ts L1 o):=by
 cases l:d' o.dO o.vals.length with
 | false=>exact vE h hv l
 | true =>
  rcases bZ ts o.tbl with ⟨s,E,_⟩ | ⟨t,g,s,E,G⟩
  ·rw[vF l (by rw[s];decide)];unfold sf;rw[zv l,kK (by rw[s];decide)];obtain⟨p,c,rfl,_,_⟩:=hv.slice;refine GN (Q:=fun w'=>PX (DA d ts ps) K W0 w' L1) l (fun j i=>?_);have a:=h.later i;have y:=a;obtain⟨_,O,⟨L,H,_⟩,_⟩:=y;exact(H.notable hfew hok.tbl E).mono (fun e w'⟨I,J⟩=>⟨I,a.later J⟩)
  ·have v:t<ps.length:=(by rw[h.BJ.1];exact g);have r:t<L1.length:=(by rw[h.BJ.2];exact g);have z:ts[t].nm=o.tbl:=iJ G
   have b:∀j,Below w.heap.size w j->Calls prog 29 #[.pointer (some ⟨d,0,none⟩),.string o.tbl] j fun e w'=>e=.returned (.pointer (some ⟨ps[t],0,none⟩))/\w'=j:=fun j i=>by
    have:=(h.later i).table g (hsz _ (z8 g)) v
    rw[z]at this;exact this
   rw[D4 l s g r];unfold sf;rw[zv l,dX s g r];have u:=hcs _ (z8 g);have n:=hsm _ (z8 r);rcases eL l with a|a|⟨a,F⟩
   ·rw[zv a,zv a,a];obtain⟨p,c,rfl,_,_⟩:=hv.slice;exact IE (Q:=fun w'=>PX (DA d ts ps) K W0 w' _) b (fun j i=>(h.later i).Cs g v r (hv.later i) hS n hm u.2 hok.vals (by have:=hok.few;omega))
   ·have f:¬ o.dO=1:=(by omega);rw[zq f,zq f,zv a,zv a,a];obtain⟨p,c,rfl,_,_⟩:=hv.slice;exact ID (Q:=fun w'=>PX (DA d ts ps) K W0 w' _) b (fun j i=>(h.later i).Cg g v r hok.id n hm u.2)
   ·have f:¬ o.dO=1:=(by omega);have k:¬ o.dO=2:=(by omega);rw[zq f,zq f,zq k,zq k,zv F,a];obtain⟨M,N,c,rfl,A⟩:=vG hv F
    have B:(o.vals.getD 0 z3).2.2.size<=maxLen:=by
     rw[zu,z6 (by omega)];exact hok.vals _ (z8 _)
    exact Ig (Q:=fun w'=>PX (DA d ts ps) K W0 w' _) A b (fun j i=>(h.later i).im g v r hok.id o.col _ B n hm)
theorem FR(h:PX (DN b ts) K W0 w L2)(hcs:∀t∈ts,0<t.cols.length/\t.cols.length<=1000)(hsm:∀x∈L2,dw m x)(hm:m<=590)(hok:ir o)(hv:eb S w vv o.vals)(hS:∀q,S q->K q):Calls prog 96 #[.pointer (some ⟨b,0,none⟩),.agg #[.int .i64 o.dO,.string o.tbl,.int .i64 o.id,.string o.col,vv]] w fun e w'=>e=.returned (.tuple #[.int .i64 (py ts L2 o).1,.int .i64 (py ts L2 o).2])/\PX (DN b ts) K W0 w' (sf ts L2 o):=by
 cases i:d' o.dO o.vals.length with
 | false =>
  unfold py sf;rw[zv i,zq (by rw[i];decide)];obtain⟨p,c,rfl,_,_⟩:=hv.slice;exact(rY i).mono (fun e w'⟨l,n⟩=>⟨l,h.later n⟩)
 | true =>
  have G:=h;obtain⟨_,H,⟨I,F,r,J⟩,_⟩:=G;have a:∀j,Below w.heap.size w j->j.cell? ⟨b,0,none⟩=some F.sv/\b<j.heap.size/\Calls prog 36 #[F.sv,.string o.tbl] j fun e w'=>e=.returned (.int .i64 (ky ts o.tbl))/\w'=j:=fun j g=>⟨aA (aE g r.box) 0,aC (aE g r.box),cJ (r.later g).ut⟩
  rcases bZ ts o.tbl with ⟨s,L,_⟩ | ⟨t,u,s,L,M⟩
  ·rw[vF i (by rw[s];decide)];unfold sf;rw[zv i,kK (by rw[s];decide)];obtain⟨p,c,rfl,_,_⟩:=hv.slice;rw[s]at a;rcases eL i with d|d|⟨d,A⟩
   ·rw[d];exact(EP a).mono (fun e w'⟨l,n⟩=>⟨l,h.later n⟩)
   ·rw[d];exact(EV a).mono (fun e w'⟨l,n⟩=>⟨l,h.later n⟩)
   ·rw[d,A];exact(Ib a).mono (fun e w'⟨l,n⟩=>⟨l,h.later n⟩)
  ·have z:t<L2.length:=(by rw[h.ux];exact u);rw[s]at a;rw[D4 i s u z];unfold sf;rw[zv i,dX s u z];have v:=hcs _ (z8 u);have y:=hsm _ (z8 z);rcases eL i with d|d|⟨d,A⟩
   ·rw[zv d,zv d,d];obtain⟨p,c,rfl,_,_⟩:=hv.slice;exact Fl (Q:=fun w'=>PX (DN b ts) K W0 w' _) a (fun j g=>(h.later g).jx u z (hv.later g) hS y hm v.2 v.1 hok.vals (by have:=hok.few;omega))
   ·have f:¬ o.dO=1:=(by omega);rw[zq f,zq f,zv d,zv d,d];obtain⟨p,c,rfl,_,_⟩:=hv.slice;exact JD (Q:=fun w'=>PX (DN b ts) K W0 w' _) a (fun j g=>(h.later g).Bd u z o.id y hm)
   ·have f:¬ o.dO=1:=(by omega);have k:¬ o.dO=2:=(by omega);rw[zq f,zq f,zq k,zq k,zv A,d];obtain⟨N,O,c,rfl,B⟩:=vG hv A
    have E:(o.vals.getD 0 z3).2.2.size<=maxLen:=by
     rw[zu,z6 (by omega)];exact hok.vals _ (z8 _)
    exact FE (Q:=fun w'=>PX (DN b ts) K W0 w' _) a B (fun j g=>(h.later g).Ba u z o.id o.col _ E v.1 y hm)
theorem rZ(h:∀x∈L,dw m x):∀x∈sf ts L o,dw (m+1) x:=by
 unfold sf;split
 ·exact uJ h
 exact fun x a=>(h x a).mono (by omega)
end
structure Out where
 rows:List PT
 ids:List Int
 err:Int
 place:Int
 tbl:ByteArray
def dt(ts:List T):List PT->Nat->List Int->List cx->Out
 | L,_,ids,[]=>⟨L,ids,0,0,e0⟩
 | L,k,ids,o::l=>if (py ts L o).2=0 then dt ts (sf ts L o) (k+1) (if o.dO=1 then ids++[(py ts L o).1]else ids) l else⟨sf ts L o,[],(py ts L o).2,(k:Int),o.tbl⟩
def ak(ts:List T)(L:List PT)(l:List cx):Out:=if l.length=0∨40<l.length then⟨L,[],5,0,e0⟩else dt ts L 0 [] l
section
variable {ts:List T}{L:List PT}{l:List cx}{ids:List Int}{k j m:Nat}
theorem Dv(hj:j<l.length)(h:(py ts L l[j]).2=0):dt ts L k ids (l.drop j)=dt ts (sf ts L l[j]) (k+1) (if l[j].dO=1 then ids++[(py ts L l[j]).1]else ids) (l.drop (j+1)):=by
 rw[vw hj,dt,zv h]
theorem CE(hj:j<l.length)(h:(py ts L l[j]).2≠0):dt ts L k ids (l.drop j)=⟨sf ts L l[j],[],(py ts L l[j]).2,(k:Int),l[j].tbl⟩:=by
 rw[vw hj,dt,zq h]
theorem vH(hj:l.length<=j):dt ts L k ids (l.drop j)=⟨L,ids,0,0,e0⟩:=by
 rw[List.drop_of_length_le hj,dt]
theorem CS:∀{l:List cx} {L:List PT} {k m:Nat} {ids:List Int},(∀x∈L,dw m x)->∀x∈(dt ts L k ids l).rows,dw (m+l.length) x
 | [],L,k,m,ids,h=>by rw[dt];exact h
 | o::l,L,k,m,ids,h=>by
  rw[dt];split
  ·intro x a
   have:=CS (rZ (ts:=ts) (o:=o) h) x a
   rw[xe];exact this.mono (by omega)
  ·intro x a
   have:=rZ (ts:=ts) (o:=o) h x a
   rw[xe];exact this.mono (by omega)
theorem eV(h:∀x∈L,dw m x):∀x∈(ak ts L l).rows,dw (m+l.length) x:=by
 unfold ak;split
 ·exact fun x a=>(h x a).mono (by omega)
 exact CS h
end
