import Derived.Test.YtkchgbjoeggdbaaGreatZn22
import Derived.Test.YtkchgbjoeggdbaaGreatZn24
set_option maxHeartbeats 8000000
set_option maxRecDepth 100000
namespace Go.Proofs.YtkchgbjoeggdbaaGreat
open Go.Proofs.Tryz
open Go Go.RowKit Go.Shelf Go.Proofs Co Co.S
attribute [local go_sem] Oper.semAt_some
attribute [local go_sem] fK fL bH aR
structure th (n:Nat) (A:List R1) (G0:Int->Bool) (k:Nat) (i:In):Prop where
 free:i.free=[]
 np:i.np=k
 late:i.late=[]
 G:i.G=G0
 m:i.m<=k
 lens:∀c,c<n->(i.cl c).length=k
 cl:∀c,c<n->∀j (_:j<k) (h':j<A.length),(i.cl c)[j]?=(A[j].2)[c]?
 f:∀x p,i.f x=some p↔∃h:p<A.length,p<k/\A[p].1=x
section
variable{W w:World}{tb next n k:Nat}{t:T}{i:In}{A:List R1}{lab:Nat->Nat}{G0:Int->Bool}
theorem CA{A:List R1}(h:A.Pairwise (fun a b=>a.1<b.1)){p q:Nat}(hp:p<A.length)(hq:q<A.length)(e:A[p].1=A[q].1):p=q:=by
 rcases Nat.lt_trichotomy p q with c|c|c
 ·have:=List.pairwise_iff_getElem.1 h p q hp hq c;omega
 ·exact c
 have:=List.pairwise_iff_getElem.1 h q p hq hp c;omega
theorem th.spot(h:th n A G0 k i):spot i=k:=by unfold YtkchgbjoeggdbaaGreat.spot;rw[h.free,h.np];rfl
theorem th.step(h:th n A G0 k i)(hn:t.cols.length=n)(hs:A.Pairwise (fun a b=>a.1<b.1))(hk:k<A.length)(hv:A[k].2.length=n)(hP:lz W tb t next i lab A[k].1 k A[k].2 n w):∃r d,ec w tb t next r d/\th n A G0 (k+1) r/\Ext W lab d/\Tn (fun b=>lab b≠0) W w:=by
 obtain⟨r,d,q,u,o,v,B,E,z,F,H,I,J,L⟩:=hP;rw[hn]at z
 have s:∀c,c<n->r.cl c=i.cl c++[A[k].2.getD c z3]:=fun c g=>by
  rw[z c g,zw g];unfold bu;rw[zu (by rw[h.lens c g];omega)]
 refine⟨r,d,q,⟨by rw[v,h.free];rfl,by rw[o,h.np],by rw[B,h.late],by rw[E,h.G],by have:=h.m;omega,fun c g=>by rw[s c g,y6,h.lens c g];rfl,fun c g j N y=>?_,fun x p=>?_⟩,F,H⟩
 ·rw[s c g];by_cases e:j=k
  ·subst e;rw[ya (by rw[h.lens c g];exact zo _),h.lens c g,Nat.sub_self,zv,z6 (l:=A[j].2) (by rw[hv];exact g)];rfl
  rw[xu (by rw[h.lens c g];omega)];exact h.cl c g j (by omega) y
 rw[u];unfold sy;by_cases e:x=A[k].1
 ·rw[zw e];constructor
  ·intro M;cases M;exact⟨hk,IW k,e.symm⟩
  rintro⟨q,u,o⟩;rw[CA hs q hk (o.trans e)]
 rw[zu e,h.f x p];constructor
 ·rintro⟨q,u,o⟩;exact⟨q,by omega,o⟩
 rintro⟨q,u,o⟩
 exact⟨q,by
  rcases wm p k with v|v
  ·exact v
  ·have:p=k:=(by omega);subst this;exact absurd o.symm e,o⟩
theorem th.inv{iT:In}(hT:Inv n next iT A)(hlen:∀a∈A,a.2.length=n)(h:th n A (jf iT) A.length i):Inv n next i A:=by
 refine⟨h.np,fun k q=>by rw[h.lens k q,h.free];rfl,hT.srt,hT.rng,fun a o=>?_,fun x l=>?_,fun x y p l r=>?_,fun p e=>?_,by rw[h.free];exact List.nodup_nil,fun p e=>?_,fun x=>?_,by rw[h.free];have:=hT.few;simp;omega,by rw[h.late];exact zj _,hT.lim⟩
 ·obtain⟨j,g,rfl⟩:=xp o;exact⟨j,(h.f _ _).2 ⟨g,g,rfl⟩,by rw[h.free];exact g,mG (hlen _ o) (fun c s=>h.cl c s j g g)⟩
 ·cases t:i.f x with
  | none=>rfl
  | some p =>
   obtain⟨b,_,m⟩:=(h.f x p).1 t;exact absurd m (l _ (z8 b))
 ·obtain⟨b,_,m⟩:=(h.f x p).1 l;obtain⟨_,_,u⟩:=(h.f y p).1 r;rw[<-m,u]
 ·rw[h.free]at e;cases e
 ·rw[h.free]at e;have d:p<A.length:=e;exact .inr ⟨_,z8 d,(h.f _ _).2 ⟨d,d,rfl⟩⟩
 rw[h.G,h.late,<-hT.gone x];unfold jf ry;simp only[vk,or_false,wh,zy,xz];constructor
 ·rintro(b|⟨b,_⟩)
  ·exact .inl b
  exact .inr b
 rintro(b|b)
 ·exact .inl b
 refine .inr ⟨b,?_⟩;obtain⟨v,w,_⟩:=(hT.gone x).1 (.inr b)
 have:=hT.lim
 unfold qg
 simp;omega
theorem th.start(h:Inv n 0 i []){i':In}(hm:i'.m=0)(hf:i'.free=i.free)(hnp:i'.np=i.np)(hl:i'.late=i.late)(hG:i'.G=G0)(hc:i'.cl=i.cl)(hff:i'.f=i.f):th n A G0 0 i':=by
 have b:i.free=[]:=wg (by have:=h.few;rw[vc]at this;omega);refine⟨hf.trans b,hnp.trans h.np,?_,hG,by omega,fun c d=>by rw[hc,h.lens c d,b];rfl,fun c _ j g=>absurd g (yh j),fun x p=>?_⟩
 ·rw[hl];cases k:i.late with
  | nil=>rfl
  | cons x r =>
   obtain⟨q,s,_⟩:=(h.gone x).1 (.inr (by rw[k];simp));omega
 rw[hff,h.no x (fun a l=>(by cases l))];constructor
 ·intro e;cases e
 rintro⟨_,o,_⟩;exact absurd o (yh p)
end
theorem Fz{kind:Int}{x:T3}(h:lq kind x=true):x.2.2.size<=maxLen:=by
 obtain⟨k,e,s⟩:=x;unfold lq jh at h;simp only[zy]at h;have a:=h.1
 have b:s.data.toList.length<=12∨s.data.toList=[]:=by
  split at a
  ·simp only[zy]at a;exact .inr (List.isEmpty_iff.1 a.2)
  split at a
  ·exact .inr (List.isEmpty_iff.1 a)
  split at a
  ·simp only[zy]at a
   have:=a.2
   unfold qq at this;simp only[zy,xz]at this;exact .inl this.1
  cases a
 have d:s.size=s.data.toList.length:=(by rw[Array.length_toList];rfl);show s.size<=maxLen;unfold maxLen;rcases b with c|c
 ·omega
 rw[c,vc]at d;omega
structure Au (W:World) (B1 O tb ob:Nat) (t:T) (next:Nat) (A:List R1) (labT:Nat->Nat) (G0:Int->Bool) (k:Nat) (S:Nat->Prop) (w:World):Prop where
 own:∃i lab,ec w ob t next i lab/\th t.cols.length A G0 k i/\∀b,lab b≠0->S b/\W.heap.size<=b/\b≠B1/\b≠O
 tab:Tb w tb t next A labT
 sup:∀b,labT b≠0->S b/\b<W.heap.size
 c1:w.heap[B1]?=some (.cells #[.pointer (some ⟨tb,0,none⟩)] 48)
 c3:w.heap[O]?=some (.cells #[.pointer (some ⟨ob,0,none⟩)] 48)
 old:∀b,b<W.heap.size->S b∨∃cur e m,w.heap[b]?=some (.cells cur e m)
 bel:Below W.heap.size W w
section
variable{W A' B':World}{B1 O tb ob next k:Nat}{t:T}{A:List R1}{labT:Nat->Nat}{G0:Int->Bool}{S:Nat->Prop}
theorem Au.loc(h:Au W B1 O tb ob t next A labT G0 k S A')(hsz:A'.heap.size<=B'.heap.size)(d:∀b,S b->B'.heap[b]?=A'.heap[b]?)(hkc:∀(b:Nat) (a:Array Value) (e:TypeId) (m:Nat×Nat),A'.heap[b]?=some (Obj.cells a e m)->B'.heap[b]?=some (Obj.cells a e m))(hos:B'.os=A'.os/\B'.tape=A'.tape/\B'.output=A'.output):Au W B1 O tb ob t next A labT G0 k S B':=by
 have f:Tn (fun b=>¬ S b) A' B':=⟨⟨hos.1,hos.2.1,hos.2.2,hsz,fun b _ j=>d b (Classical.not_not.1 j)⟩,fun b a e m n _=>hkc b a e m n⟩;obtain⟨i,lab,n,q,o⟩:=h.own;have p:∀{l:Nat->Nat},(∀b,l b≠0->S b)->∀b,¬ S b->l b=0:=(fun r b j=>Classical.byContradiction fun h=>j (r b h));refine⟨⟨i,lab,n.tn f (p (fun b d=>(o b d).1)),q,o⟩,h.tab.tn f (p (fun b d=>(h.sup b d).1)),h.sup,hkc _ _ _ _ h.c1,hkc _ _ _ _ h.c3,fun b c=>(h.old b c).imp id (fun⟨a,e,m,he⟩=>⟨a,e,m,hkc b a e m he⟩),h.bel.trans ⟨hos.1,hos.2.1,hos.2.2,hsz,fun b c=>?_⟩⟩;rcases h.old b c with g|⟨a,e,m,g⟩
 ·exact d b g
 rw[hkc b a e m g,g]
theorem Au.round{w1 w2 w:World}{i:In}{lab:Nat->Nat}(h:Au W B1 O tb ob t next A labT G0 k S w1)(hlab:∀b,lab b≠0->S b/\W.heap.size<=b/\b≠B1/\b≠O)(hin:fi S w1)(hC:th t.cols.length A G0 k i)(hs:A.Pairwise (fun a b=>a.1<b.1))(hk:k<A.length)(hv:A[k].2.length=t.cols.length)(c:Below w1.heap.size w1 w2)(hP:lz w2 ob t next i lab A[k].1 k A[k].2 t.cols.length w):∃s,Grows S s w1/\fi s w/\Chg S w1 w/\Au W B1 O tb ob t next A labT G0 (k+1) s w:=by
 obtain⟨E,l,x,F,G,n⟩:=hC.step rfl hs hk hv hP;have H:=h.bel.size;have I:=c.size;have J:=n.size;have g:Chg S w1 w:=(Chg.of_below (S:=fun _=>False) c).trans n.chg (fun _ _ h=>h.elim) (fun b _ c=>(hlab b c).1)
 have f:∀(b:Nat) (o:Obj),w1.heap[b]?=some o->lab b=0->w.heap[b]?=some o:=fun b o y p=>by
  have d:=aB y;rw[n.chg.block b (by omega) (fun j=>j p),c.block b d,y]
 have z:∀b,(b=B1∨b=O)->lab b=0:=fun b c=>Classical.byContradiction fun j=>by
  have:=hlab b j
  rcases c with c|c
  ·exact this.2.2.1 c
  exact this.2.2.2 c
 have B:∀b,b<W.heap.size->lab b=0:=(fun b d=>Classical.byContradiction fun j=>by have:=(hlab b j).2.1;omega);refine⟨fun b=>S b∨(w1.heap.size<=b/\b<w.heap.size),fun b c=>c.imp id (fun h=>h.1),fun b c=>?_,g,⟨E,l,x,F,fun b q=>?_⟩,(h.tab.later c).tn n (fun b j=>?_),fun b c=>⟨.inl (h.sup b c).1,(h.sup b c).2⟩,f _ _ h.c1 (z _ (.inl rfl)),f _ _ h.c3 (z _ (.inr rfl)),fun b d=>?_,h.bel.trans ⟨g.os,g.tape,g.output,g.size,fun b d=>?_⟩⟩
 ·rcases c with c|c
  ·have:=hin b c;omega
  exact c.2
 ·have d:=x.lt b q;rcases wm b w2.heap.size with r|L
  ·have p:lab b≠0:=by rw[<-G b r];exact q
   have:=hlab b p
   exact⟨.inl this.1,this.2⟩
  have M:=aB h.c1;have N:=aB h.c3;exact⟨.inr ⟨by omega,d⟩,by omega,by omega,by omega⟩
 ·exact Classical.byContradiction fun p=>by
   have P:=(h.sup b p).2;have Q:=(hlab b j).2.1;omega
 ·rcases h.old b d with u|⟨v,e,m,u⟩
  ·exact .inl (.inl u)
  exact .inr ⟨v,e,m,f _ _ u (B b d)⟩
 rw[n.chg.block b (by omega) (fun j=>j (B b d)),c.block b (by omega)]
end
theorem ec.drop{W:World}{tb next:Nat}{t:T}{i:In}{lab:Nat->Nat}(h:ec W tb t next i lab){g:Nat}{j:Array Value}{m:Nat×Nat}(hg:W.heap[g]?=some (.cells j 81 m)):ec W tb t next i (fun b=>if b=g then 0 else lab b):=by
 have f:∀b,Ty W b->b≠g:=fun b⟨cs,ty,c,n⟩ e=>by
  rw[e,hg]at c;cases c;cases n
 have d:∀{v:Value} {k:Nat} {xs:List Value},ac W 0 3 1 v k xs->∀b,v.ownBlock=some b->b≠g:=fun p b a e=>by
  obtain⟨_,j,c⟩:=p.block b a;rw[e,hg]at c;cases c
 refine⟨⟨h.form,h.cols,h.col,h.place,h.pm,h.free,h.gone,h.late,?_,fun b a=>?_,fun b a=>?_,fun b a=>?_,fun k l=>?_,fun k l b a=>?_,fun b a=>?_⟩,h.box⟩
 ·show(if tb=g then 0 else lab tb)=1;rw[zu (f tb h.ty)];exact h.l1
 ·show(if b=g then 0 else lab b)=2;rw[zu (fun e=>?_)]
  ·exact h.l2 b a
  rcases h.place with ⟨c,_⟩ | ⟨q,c,n⟩
  ·rw[c]at a;cases a
  rw[c]at a;cases a
  obtain⟨D,⟨r,s,o,_⟩,_⟩:=n.own;rw[e,hg]at o;cases o
 ·show(if b=g then 0 else lab b)=3;rw[zu (d h.free b a)];exact h.l3 b a
 ·show(if b=g then 0 else lab b)=4;rw[zu (d h.late b a)];exact h.l4 b a
 ·show(if i.cb k=g then 0 else lab (i.cb k))=_;rw[zu (f _ (h.col k l).ty.1)];exact h.l6 k l
 ·show(if b=g then 0 else lab b)=_;rw[zu (f _ ((h.col k l).ty.2 b a))];exact h.l7 k l b a
 refine h.lt b (fun e=>a ?_);show(if b=g then 0 else lab b)=0;rw[e];split <;> rfl
theorem ec.uz{W:World}{tb next:Nat}{t:T}{i:In}{lab:Nat->Nat}{v:Value}{l:List R2}(h:ec W tb t next i lab)(hv:Mv W v l):∃a,ec W tb t next i a/\∀b,a b≠0->lab b≠0/\v.ownBlock≠some b:=by
 cases d:v.ownBlock with
 | none=>exact⟨lab,h,fun b c=>⟨c,fun e=>by cases e⟩⟩
 | some g =>
  obtain⟨_,f,j⟩:=ac.block hv g d;refine⟨_,h.drop j,fun b c=>?_⟩;by_cases e:b=g
  ·simp[e]at c
  ·simp[e]at c;exact⟨c,fun h=>e (by cases h;rfl)⟩
theorem Hw{W:World}{tb next:Nat}{t:T}{A:List R1}{lab:Nat->Nat}(h:Tb W tb t next A lab){a:R1}(ha:a∈A):ft t a.2=true:=jJ fun j b=>by
 have c:=h.len a ha;unfold AC;rw[z6 b,z6 (l:=a.2) (by omega)];exact h.ok a ha j b _ (z6 (l:=a.2) (by omega))
theorem Dq{W:World}{tb next:Nat}{t:T}{A:List R1}{lab:Nat->Nat}(h:Tb W tb t next A lab){a:R1}(ha:a∈A):∀x∈a.2,x.2.2.size<=maxLen:=fun x b=>by
 obtain⟨j,c,rfl⟩:=xp b;have d:=h.len a ha;exact Fz (h.ok a ha j (by omega) _ (z6 c))
section
variable{W:World}{tb next:Nat}{t:T}{A:List R1}{labT:Nat->Nat}
theorem fR{l:List R2}(hl:Nrm l)(hP:Is l (oi A))(hs:A.Pairwise (fun a b=>a.1<b.1)):els l=A.map (·.1):=
 EF hl hP (by rw[List.pairwise_map];exact hs) (fun x=>by rw[mL];exact qD)
structure JC (w3:World) (E:Nat->Value) (ob next:Nat) (t:T) (i0:In) (lab0:Nat->Nat) (gP:Int->Bool) (l:Nat->Bool) (vs:Nat->Value) (w:World):Prop where
 tn:Tn (fun b=>b=ob) w3 w
 ev:∀j,j≠3->j≠10->j≠13->l j=true->vs j=E j
 v3:l 3=true->∃p n c,vs 3=.agg #[.slice p n c]/\Vm w (.slice p n c) gP
 own:∃v nx G,ec w ob t nx { i0 with gv:=v,G:=G } lab0/\(l 10=true->G=gP)/\(l 13=true->nx=next)
section
open Par
variable{w3 w w':World}{E:Nat->Value}{ob next:Nat}{t:T}{i0:In}{lab0:Nat->Nat}{gP:Int->Bool}{l:Nat->Bool}{vs:Nat->Value}
theorem JC.up(h:JC w3 E ob next t i0 lab0 gP l vs w)(i:Nat)(hi:i≠3/\i≠10/\i≠13):JC w3 E ob next t i0 lab0 gP (fg l i) (ef vs i (E i)) w:=by
 obtain⟨v,nx,G,f,g,k⟩:=h.own;refine⟨h.tn,fun j a b c d=>?_,fun d=>?_,v,nx,G,f,fun d=>g ?_,fun d=>k ?_⟩
 ·by_cases e:j=i
  ·subst e;rw[bI]
  rw[aO e];rw[aL e]at d;exact h.ev j a b c d
 ·rw[aL (fun e=>hi.1 e.symm)]at d;rw[aO (fun e=>hi.1 e.symm)];exact h.v3 d
 ·rwa [aL (fun e=>hi.2.1 e.symm)]at d
 rwa [aL (fun e=>hi.2.2 e.symm)]at d
theorem JC.call(h:JC w3 E ob next t i0 lab0 gP l vs w)(hb:Below w.heap.size w w'){p:Option Addr}{n c:Nat}(hv:Vm w' (.slice p n c) gP):JC w3 E ob next t i0 lab0 gP (fg l 3) (ef vs 3 (.agg #[.slice p n c])) w':=by
 obtain⟨v,nx,G,e,f,g⟩:=h.own;refine⟨h.tn.trans (Tn.of_below (S:=fun _=>False) hb) (fun _ _ h=>h) (fun _ _ h=>h.elim),fun j a b c d=>?_,fun d=>⟨p,n,c,bI,hv⟩,v,nx,G,e.later hb,fun d=>f ?_,fun d=>g ?_⟩
 ·rw[aO a];rw[aL a]at d;exact h.ev j a b c d
 ·rwa [aL (by decide)]at d
 rwa [aL (by decide)]at d
theorem JC.BR(h:JC w3 E ob next t i0 lab0 gP l vs w)(v0:Value){p:Option Addr}{n c:Nat}(h3:vs 3=.agg #[.slice p n c])(hv:Vm w (.slice p n c) gP):JC w3 E ob next t i0 lab0 gP (fg l 10) (ef vs 10 v0) (w.setCell ⟨ob,7,none⟩ (.slice p n c)):=by
 obtain⟨v,nx,G,g,o,k⟩:=h.own;have e:=Tn.own g 7 (.slice p n c);have m:Tn (fun b=>b=ob) w (w.setCell ⟨ob,7,none⟩ (.slice p n c)):=Tn.bt ((Chg.refl (fun b=>b=ob) w).setCell (p:=⟨ob,7,none⟩) (fun _=>rfl) _) (fun b _ i=>.inl (i▸g.ty));have d:=g.toug.tn e (fun b i=>.inr i);refine⟨h.tn.trans m (fun _ _ h=>h) (fun _ _ h=>h),fun j a b c f=>?_,fun f=>?_,.slice p n c,nx,gP,⟨⟨d.form,d.cols,d.col,d.place,d.pm,d.free,hv.tn e,d.late,d.l1,d.l2,d.l3,d.l4,d.l6,d.l7,d.lt⟩,y7 _ ob 7 _ _ _ g.box⟩,fun _=>rfl,fun f=>k ?_⟩
 ·rw[aO b];rw[aL b]at f;exact h.ev j a b c f
 ·rw[aO (by decide)];exact⟨p,n,c,h3,hv.tn e⟩
 rwa [aL (by decide)]at f
theorem JC.BY(h:JC w3 E ob next t i0 lab0 gP l vs w)(v0:Value)(hm:i0.m<=next):JC w3 E ob next t i0 lab0 gP (fg l 13) (ef vs 13 v0) (w.setCell ⟨ob,9,none⟩ (.int .i64 (next:Int))):=by
 obtain⟨v,nx,G,i,o,s⟩:=h.own;have g:=Tn.own i 9 (.int .i64 (next:Int));have q:Tn (fun b=>b=ob) w (w.setCell ⟨ob,9,none⟩ (.int .i64 (next:Int))):=Tn.bt ((Chg.refl (fun b=>b=ob) w).setCell (p:=⟨ob,9,none⟩) (fun _=>rfl) _) (fun b _ k=>.inl (k▸i.ty));have d:=i.toug.tn g (fun b k=>.inr k);refine⟨h.tn.trans q (fun _ _ h=>h) (fun _ _ h=>h),fun j a b c f=>?_,fun f=>?_,v,next,G,⟨⟨d.form,d.cols,d.col,d.place,hm,d.free,d.gone,d.late,d.l1,d.l2,d.l3,d.l4,d.l6,d.l7,d.lt⟩,y7 _ ob 9 _ _ _ i.box⟩,fun f=>o ?_,fun _=>rfl⟩
 ·rw[aO c];rw[aL c]at f;exact h.ev j a b c f
 ·rw[aL (by decide)]at f;rw[aO (by decide)];obtain⟨p,n,c,e,r⟩:=h.v3 f;exact⟨p,n,c,e,r.tn g⟩
 rwa [aL (by decide)]at f
theorem JC.box(h:JC w3 E ob next t i0 lab0 gP l vs w):ob<w.heap.size/\(∀j,w.frozen? ⟨ob,j,none⟩=false)/\(∃v,w.cell? ⟨ob,7,none⟩=some v)/\(∃v,w.cell? ⟨ob,9,none⟩=some v):=by
 obtain⟨v,nx,G,a,b,c⟩:=h.own;exact⟨a.tlt,a.fz,⟨_,a.cells.2.2.2.2.2.2.2.1⟩,⟨_,a.cells.2.2.2.2.2.2.2.2.2⟩⟩
end
structure BQ (w2:World) (ob:Nat) (W:World):Prop where
 lt:ob<w2.heap.size
 le:W.heap.size<=w2.heap.size
theorem yB(h:Tb W tb t next A labT)(hf:Few t)(hk:∀c∈t.cols,c.kd=1∨c.kd=2)(hn:next<=590)(h0:0<t.cols.length):Calls prog 159 #[.pointer (some ⟨tb,0,none⟩)] W fun e W'=>∃ob lab,e=.returned (.pointer (some ⟨ob,0,none⟩))/\Tb W' ob t next A lab/\(∀b,lab b≠0->W.heap.size<=b)/\Below W.heap.size W W':=by
 have hc:t.cols.length<=1000:=hf.1;obtain⟨V,L,g4⟩:=h;have e8:=aD W (.cells #[.pointer (some ⟨tb,0,none⟩)] 48);have g5:=z7 W (.cells #[.pointer (some ⟨tb,0,none⟩)] 48);obtain⟨pc,kc,g6,_,_⟩:=L.form.rd.1.slice;obtain⟨pd,kd,g7,_,_⟩:=L.form.rd.2.slice;have I:=mM (L.later e8).form.rd hf hk;obtain⟨c0,c1,c2,c3,_⟩:=L.cells;have zt:=L.tlt;rw[g6]at c1 I;rw[g7]at c3 I;have HT:=aa (ab L g4);have HB:=aa (ab e8 g5);have HF:=aa (ab hf (ab hk (ab hn (ab h0 hc))));obtain⟨nm,e9⟩:=ae t.nm;obtain⟨key,X⟩:=ae t.key;obtain⟨n,b4⟩:=ae t.cols.length;obtain⟨nd,b5⟩:=ae t.deps.length;rw[e9,X,b4,b5]at I;rw[e9]at c0;rw[X]at c2;rw[b4]at c1;rw[b5]at c3;have HN:=aa (ab b4 b5);clear hf hk hn h0 hc e8 g5 L g4 g6 g7 e9 X b4 b5;refine(callsIn_wide (n:=0)).1 ?_;refine callsIn_of_wp_marks func159 rfl trivial ?_ rfl;simp only[ntmps159,List.size_toArray,xa,vc,Nat.reduceAdd,Nat.reduceSub,Array.replicate_succ,Array.replicate_zero,List.push_toArray,List.append_toArray,IU,IV]
 gi_wp2_with (gi_at_call 39;refine aI rfl ?_;(with_reducible refine I.mono ?_);rintro e R⟨ob,lab0,rfl,c8,e1,b6⟩;have H2:=aa (ab c8 (ab e1 b6));clear c8 e1 b6 I)
 have Y:=aD R (.cells #[.pointer (some ⟨ob,0,none⟩)] 48);have b7:=z7 R (.cells #[.pointer (some ⟨ob,0,none⟩)] 48);have P:=aC HB.1 H2.2.2;have b8:=aE Y (aE H2.2.2 HB.2);obtain⟨i0,o1,o2⟩:=H2.1;have o3:=o1.later Y;have t3:=HT.1.later (aC P Y);have Z:=aC P Y;have a0:BQ R ob W:=⟨o1.tlt,P.size⟩;obtain⟨w3,f0⟩:=ae (R.alloc (.cells #[.pointer (some ⟨ob,0,none⟩)] 48));obtain⟨O,hO⟩:=ae R.heap.size;obtain⟨B1,f1⟩:=ae W.heap.size;rw[f0]at b7 b8 o3 t3 Z;rw[hO]at b7;rw[f1]at b8;have HX:Hid (∀w,Below w3.heap.size w3 w->w.heap[B1]?=some (.cells #[.pointer (some ⟨tb,0,none⟩)] 48)/\w.heap[O]?=some (.cells #[.pointer (some ⟨ob,0,none⟩)] 48)/\ec w tb t next V labT/\ec w ob t 0 i0 lab0):=aa (fun w hw=>⟨aE hw b8,aE hw b7,t3.later hw,o3.later hw⟩);have U:=aa (ab Z (ab o2 (ab f0 (ab hO (ab f1 a0)))));clear Y b7 P b8 o1 o2 o3 t3 Z a0 f0 hO f1 c0 c1 c2 c3 zt;rw[U.2.2.1,U.2.2.2.1,U.2.2.2.2.1];refine wpIn_wide.2 ?_;have a4:∀w,ec w tb t next V labT->Calls prog 42 #[.pointer (some ⟨tb,0,none⟩)] w (rq (jf V) w):=(fun w h=>jI h (by have:=HT.2.lat;omega));have HG:=aa a4;have i7:=enters_of func42 (by kernel_rfl) rfl;have f2:=U.2.2.2.2.2;have zO:=U.2.2.2.1;have zB:=U.2.2.2.2.1;have f3:=H2.2.1 ob (by rw[(HX.out w3 (zg _ _)).2.2.2.l1];decide);rw[zm]at f3;have a5:O≠ob:=(by have:=f2.lt;omega);have a6:B1≠ob:=(by omega);have f4:labT ob=0:=Classical.byContradiction fun h=>by have:=HT.1.lt ob h;omega
 have F:Hid (∀w,Tn (fun b=>b=ob) w3 w->w.heap[B1]?=some (.cells #[.pointer (some ⟨tb,0,none⟩)] 48)/\w.heap[O]?=some (.cells #[.pointer (some ⟨ob,0,none⟩)] 48)/\ec w tb t next V labT):=aa (fun w hw=>by
  obtain⟨a1,a2,a3,_⟩:=HX.out w3 (zg _ _);exact⟨(hw.chg.block B1 (aB a1) a6).trans a1,(hw.chg.block O (aB a2) a5).trans a2,a3.tn hw (fun b r=>by rw[r];exact f4)⟩)
 have b9:i0.m<=next:=(by have:=(HX.out w3 (zg _ _)).2.2.2.pm;omega);have HM:=aa (ab b9 (ab f3 (ab a5 (ab a6 f4))));clear a4 f2 zO zB f3 a5 a6 f4 b9;refine Par.bo 14 (JC w3 (fun i8=>[.pointer (some ⟨ob,0,none⟩),.pointer (some ⟨ob,0,none⟩),.pointer (some ⟨tb,0,none⟩),undef,.pointer (some ⟨tb,0,none⟩),.pointer (some ⟨tb,0,none⟩),.pointer (some ⟨tb,9,none⟩),.int .i64 (next:Int),.pointer (some ⟨ob,0,none⟩),.pointer (some ⟨ob,7,none⟩),undef,.pointer (some ⟨ob,0,none⟩),.pointer (some ⟨ob,9,none⟩),undef].getD i8 undef) ob next t i0 lab0 (jf V)) ?AA ?hmA ?hBA ?hAA ?hJA ?hopA ?hTA
 case hmA=>kernel_rfl
 case hBA=>kernel_rfl
 case hAA =>
  intro vs;simp only[Par.am,Par.ai,Act.put,eh,ez,dz,eo,ew,ey,ed];rfl
 case hJA =>
  intro vs;have s:=aG w3;exact⟨Tn.of_below s,fun _ _ _ _ h=>(by cases h),fun h=>(by cases h),_,0,i0.G,(HX.out _ s).2.2.2,fun h=>(by cases h),fun h=>(by cases h)⟩
 case hopA =>
  simp only[en,zh,Par.ce,yo];and_intros<;>intro l vs w d hl s u
  ·have v:=aa d;have y:=aA (F.out w d.tn).2.1 0;clear d s u;simp only[Par.af];go_simp;all_goals exact v.out.up 0 (by decide)
  ·have v:=aa d;have y:=aA (F.out w d.tn).2.1 0;clear d s u;simp only[Par.af];go_simp;all_goals exact v.out.up 1 (by decide)
  ·have v:=aa d;have y:=aA (F.out w d.tn).1 0;clear d s u;simp only[Par.af];go_simp;all_goals exact v.out.up 2 (by decide)
  ·have v:=aa d;have d2:vs 2=.pointer (some ⟨tb,0,none⟩):=d.ev 2 (by decide) (by decide) (by decide) (s 2 (by kernel_rfl));have hg:=HG.out w (F.out w d.tn).2.2;clear d s u;simp only[Par.af,d2];go_simp;refine hg.mono ?_;rintro e y2⟨p9,n9,c9,rfl,f5,i9⟩;exact⟨_,rfl,v.out.call i9 f5⟩
  ·have v:=aa d;have y:=aA (F.out w d.tn).1 0;clear d s u;simp only[Par.af];go_simp;all_goals exact v.out.up 4 (by decide)
  ·have v:=aa d;have d4:vs 4=.pointer (some ⟨tb,0,none⟩):=d.ev 4 (by decide) (by decide) (by decide) (s 4 (by kernel_rfl));have yz:=(F.out w d.tn).2.2.tlt;clear d s u;simp only[Par.af,d4];go_simp;all_goals exact v.out.up 5 (by decide)
  ·have v:=aa d;have d5:vs 5=.pointer (some ⟨tb,0,none⟩):=d.ev 5 (by decide) (by decide) (by decide) (s 5 (by kernel_rfl));have yz:=(F.out w d.tn).2.2.tlt;clear d s u;simp only[Par.af,d5];go_simp;all_goals exact v.out.up 6 (by decide)
  ·have v:=aa d;have d6:vs 6=.pointer (some ⟨tb,9,none⟩):=d.ev 6 (by decide) (by decide) (by decide) (s 6 (by kernel_rfl));have y:=(F.out w d.tn).2.2.cells.2.2.2.2.2.2.2.2.2;clear d s u;simp only[Par.af,d6];go_simp;all_goals exact v.out.up 7 (by decide)
  ·have v:=aa d;have d0:vs 0=.pointer (some ⟨ob,0,none⟩):=d.ev 0 (by decide) (by decide) (by decide) (s 0 (by kernel_rfl));have yz:=d.box.1;clear d s u;simp only[Par.af,d0];go_simp;all_goals exact v.out.up 8 (by decide)
  ·have v:=aa d;have d8:vs 8=.pointer (some ⟨ob,0,none⟩):=d.ev 8 (by decide) (by decide) (by decide) (s 8 (by kernel_rfl));have yz:=d.box.1;clear d s u;simp only[Par.af,d8];go_simp;all_goals exact v.out.up 9 (by decide)
  ·have v:=aa d;have d9:vs 9=.pointer (some ⟨ob,7,none⟩):=d.ev 9 (by decide) (by decide) (by decide) (s 9 (by kernel_rfl));obtain⟨p9,n9,c9,d3,f5⟩:=d.v3 (s 3 (by kernel_rfl));have yz:=d.box.1;have yf:=d.box.2.1 7;obtain⟨yv,yc⟩:=d.box.2.2.1;clear d s u;simp only[Par.af,d9,d3];go_simp;all_goals exact v.out.BR _ d3 f5
  ·have v:=aa d;have d1:vs 1=.pointer (some ⟨ob,0,none⟩):=d.ev 1 (by decide) (by decide) (by decide) (s 1 (by kernel_rfl));have yz:=d.box.1;clear d s u;simp only[Par.af,d1];go_simp;all_goals exact v.out.up 11 (by decide)
  ·have v:=aa d;have j0:vs 11=.pointer (some ⟨ob,0,none⟩):=d.ev 11 (by decide) (by decide) (by decide) (s 11 (by kernel_rfl));have yz:=d.box.1;clear d s u;simp only[Par.af,j0];go_simp;all_goals exact v.out.up 12 (by decide)
  have v:=aa d;have j1:vs 12=.pointer (some ⟨ob,9,none⟩):=d.ev 12 (by decide) (by decide) (by decide) (s 12 (by kernel_rfl));have d7:vs 7=.int .i64 (next:Int):=d.ev 7 (by decide) (by decide) (by decide) (s 7 (by kernel_rfl));have yz:=d.box.1;have yf:=d.box.2.1 9;obtain⟨yv,yc⟩:=d.box.2.2.2;clear d s u;simp only[Par.af,j1,d7];go_simp;all_goals exact v.out.BY _ HM.1
 intro l vs w4 hl d;simp only[ex,ye];obtain⟨p3,n3,c3,e3,j2⟩:=d.v3 (hl 3 (by decide));obtain⟨v5,c4,G5,g8,g9,h2⟩:=d.own;obtain rfl:G5=jf V:=g9 (hl 10 (by decide));obtain rfl:c4=next:=h2 (hl 13 (by decide));obtain⟨x1,x2,x3⟩:=F.out w4 d.tn;have HK:=aa (ab d.tn (ab x1 (ab x2 (ab x3 g8))));have y1:=aA x1 0;have y2:=aA x2 0;have a7:Calls prog 15 #[.pointer (some ⟨tb,0,none⟩)] w4 (rq (oi A) w4):=eM (⟨_,x3,HT.2⟩:Tb w4 tb t c4 A labT);generalize vs 0=s0;generalize vs 1=s1;generalize vs 2=s2;generalize vs 3=s3;generalize vs 4=s4;generalize vs 5=s5;generalize vs 6=s6;generalize vs 7=s7;generalize vs 8=s8;generalize vs 9=s9;generalize vs 11=s11;generalize vs 12=s12;clear d hl e3 j2 g8 x1 x2 x3 g9 h2;unfold wpList
 gi_wp2_with (gi_at_call 15;refine aI rfl ?_;(with_reducible refine a7.mono ?_);rintro e w5⟨pl,nl,cl,rfl,j3,f6⟩)
 obtain⟨lr,f7,h3,h4⟩:=j3;have h5:=eD f7;have hA:=fR h3 h4 HT.2.srt;have f8:=Cell.new w5 (.slice pl nl cl) 29
 gi_wp2_with (gi_at_call 16;refine aI rfl ?_;(with_reducible refine h5.mono ?_);rintro e w6⟨rfl,a8⟩)
 obtain⟨c,hc⟩:=ae w5.heap.size;obtain⟨xs,f9⟩:∃xs:List Int,A.map (·.1)=xs:=⟨_,rfl⟩;have h6:xs.length=A.length:=(by rw[<-f9,yd]);rw[hc]at f8
 try rw[hc]
 rw[f9]at hA;have g0:Below w5.heap.size w5 w6:=(by rw[a8];exact aD w5 _);have j4:w6.heap.size=c+1:=(by rw[a8];simp[hc]);rw[<-a8]at f8
 try rw[<-a8]
 clear a8 h5 a7 y1 y2;have o:Below w4.heap.size w4 w6:=aC f6 g0;have E:=f7.later g0;have k6:w4.heap.size<=c:=(by have:=f6.size;omega);obtain⟨h7,q1,q2⟩:=(HK.2.2.2.2.later o).uz E;obtain⟨e2,u1,u2⟩:=(HK.2.2.2.1.later o).uz E;have a9:=U.2.1;have j5:=HK.2.2.2.2.lt;have b9:i0.m=0:=(by have:=(HX.out w3 (zg _ _)).2.2.2.pm;omega);have e4:th t.cols.length A (jf V) 0 { i0 with gv:=v5,G:=jf V }:=th.start a9 b9 rfl rfl rfl rfl rfl rfl;have zO:R.heap.size=O:=U.2.2.2.1;have zB:W.heap.size=B1:=U.2.2.2.2.1;have b0:∀b,lab0 b≠0->b<R.heap.size:=H2.1.lt;have e5:∀b,lab0 b≠0->W.heap.size+1<=b:=(fun b r=>by have:=H2.2.1 b r;rwa [zm]at this);have e6:∀b,labT b≠0->b<W.heap.size:=HT.1.lt;have f2:=U.2.2.2.2.2;have z:Below W.heap.size W w4:=U.1.trans (HK.1.chg.below U.1.size (fun b r e=>by have:=HM.2.1;omega));have h8:R.heap.size<=w4.heap.size:=by have h1:=HK.1.size;have:=aB HK.2.2.1;omega
 have h0:Au W B1 O tb ob t c4 A e2 (jf V) 0 (fun b=>b<w6.heap.size/\b≠c/\(Value.slice pl nl cl).ownBlock≠some b) w6:=by
  refine⟨⟨_,h7,q1,e4,fun b r=>?_⟩,⟨V,u1,HT.2⟩,fun b r=>?_,aE o HK.2.1,aE o HK.2.2.1,fun b r=>?_,z.trans ⟨o.os,o.tape,o.output,o.size,fun b r=>o.block b (by have:=z.size;omega)⟩⟩
  ·obtain⟨k1,k2⟩:=q2 b r;have k3:=b0 b k1;have k4:=e5 b k1;exact⟨⟨by omega,by omega,k2⟩,by omega,by omega,by omega⟩
  ·obtain⟨k1,k2⟩:=u2 b r;have k3:=e6 b k1;have k4:=z.size;exact⟨⟨by omega,by omega,k2⟩,k3⟩
  have k4:=z.size;by_cases e:(Value.slice pl nl cl).ownBlock=some b
  ·obtain⟨_,h9,h1⟩:=ac.block E b e;exact .inr ⟨h9,_,_,h1⟩
  exact .inl ⟨by omega,by omega,e⟩
 have i2:=Kc.iu c h3 w6 E;rw[hA]at i2;generalize Q:({ tmps:=_,defers:=_ }:Act)=act;have j6:∀b,(Value.slice pl nl cl).ownBlock=some b->b<w6.heap.size:=(fun b r=>(ac.lt E b r).2);have i3:=aa (ab h6 (ab j4 (ab zB zO)));clear g0 f7 o q1 q2 u1 u2 a9 j5 e4 b0 e5 e6 f6 h4 h8
 refine Kc.eb (sv:=.func (.func 43) #[] #[.pointer (some ⟨c,0,none⟩)]) (by rw[<-Q];rfl) i2 (fun _=>rfl)
  (Au W B1 O tb ob t c4 A e2 (jf V)) (fun _ _ _ _=>False) ?l1 (fun _ _ _ _ _ h=>h.elim) _ ?hS ?hM ?hSM ⟨f8,E⟩ h0
  (fun x=>{ tmps:=(act.tmps.setIfInBounds 29 (.int .i64 x)).setIfInBounds 4 (.int .i64 x),defers:=[] }) ?pre ?body ?done (fun _ _ _ _ _ _ _ _ _ h=>h.elim)
 case l1=>exact fun k T A B h b1 i4 r j7 j8=>h.loc i4 r j7 j8
 case hS=>exact fun b r=>r.1
 case hM =>
  rintro b(rfl|h)
  ·omega
  exact j6 b h
 case hSM =>
  rintro b r(h|h)
  ·exact r.2.1 h
  exact r.2.2 h
 case pre =>
  intro l x W K hK;subst Q;dsimp only[enc1]
  gi_wp2
  exact hK
 case body =>
  rintro l k hk T W1 b1 i5 H;have M:k<A.length:=(by rw[<-h6];exact hk);have hx:xs[k]=A[k].1:=(by simp only[<-f9,yw]);rw[hx];obtain⟨i,lab,g1,N,g3⟩:=H.own;have q:=HT.2;have e7:=gJ H.tab (z8 M) HF.2.2.2.2 HF.2.2.2.1;have J:=H.tab.len _ (z8 M)
  have i6:i.f A[k].1=none:=by
   cases hf:i.f A[k].1 with
   | none=>rfl
   | some p =>
    obtain⟨z1,z2,z3⟩:=(N.f _ _).1 hf
    have:=CA q.srt z1 M z3
    omega
  have b2:∀R g c,Below W1.heap.size W1 R->W1.heap.size<=g->ac R W1.heap.size 32 3 (.slice (some ⟨g,0,none⟩) t.cols.length c) t.cols.length (cells3 A[k].2)->_:=fun R g c b6 hg hr =>
   rY (S:=fun b=>(Value.slice (some ⟨g,0,none⟩) t.cols.length c).ownBlock=some b) (g1.later b6) (Tb.f64 q (z8 M)) i6 (fk.my hr J) (fun b r=>Classical.byContradiction fun hn=>by cases r;have:g<W1.heap.size:=g1.lt _ hn;omega) J (Hw H.tab (z8 M)) (Dq H.tab (z8 M))
    (by rw[N.np];have:=q.few;have:=HF.2.2.1;omega) (by rw[N.free];exact zj _) (by rw[N.free];exact fun _ h=>(by cases h)) (fun j hj=>by rw[N.lens j hj,N.spot];have:=q.few;have:=HF.2.2.1;omega) (by have:=N.m;have:=q.few;omega) q.lim
  have c5:=aa (ab H (ab g1 (ab N (ab g3 (ab b1 (ab q J))))));have y1:=aA H.c1 0;subst Q;dsimp only;clear H g1 N g3 i6 q b1 i5 h0
  gi_wp2_with (first|(gi_at_call 191;refine aI rfl ?_;(with_reducible refine e7.mono ?_);rintro e w7⟨g,cg,rfl,j9,hr,c6⟩;have b2:=b2 w7 g cg c6 j9 hr;have y3:=aA (aE c6 c5.1.c3) 0;have k0:=aa c6;clear e7 y1 hr c6)|(gi_at_call 93;refine aI rfl ?_;(with_reducible refine b2.mono ?_);rintro e w8⟨rfl,hP⟩))
  obtain⟨H,g1,N,g3,b1,q,J⟩:=c5.out;rw[N.spot]at hP;exact H.round g3 b1 N q.srt M J k0.out hP
 rintro S' W' hg hi b3 H hQ hK c7;subst Q;have y3:=aA H.c3 0;have c5:=aa (ab H (ab hK c7));clear H hg hi b3 hQ c7
 gi_wp2_with fail
 obtain⟨H,hK,c7⟩:=c5.out;refine lH (fn:=Tryz.f159) (t:=2) rfl hK (fun w' b3 i4=>?_);obtain⟨i,lab,g1,N,g3⟩:=H.own;rw[i3.1]at N;have k5:Tn (fun b=>b=w6.heap.size) W' w':=⟨b3,fun b h9 e m r _=>(b3.block b (aB r) (fun e'=>by rw[e',hK]at r;cases r)).trans r⟩;refine⟨ob,lab,rfl,⟨i,g1.tn k5 (fun b r=>Classical.byContradiction fun hn=>c7 (r▸(g3 b hn).1)),N.inv HT.2 (fun a ha=>H.tab.len a ha)⟩,fun b r=>(g3 b r).2.1,H.bel.trans (b3.below H.bel.size (fun b r e=>?_))⟩
 have:=z.size
 have:=i3.2.1
 omega
end
end Go.Proofs.YtkchgbjoeggdbaaGreat
namespace Go.Proofs.YtkchgbjoeggdbaaGreat
open Go.Proofs.Tryz
open Go Go.RowKit Go.Proofs Co Co.S
abbrev ea:T:=bj qm
theorem mO:Few ea:=⟨by decide,by decide,by decide⟩
theorem yC:∀c∈ea.cols,c.kd=1∨c.kd=2:=by decide
def CB(t:T)(W:World)(e:Ending)(w':World):Prop:=∃cv dv,e=.returned (.agg #[.string t.nm,cv,.string t.key,dv])/\dw w' cv dv t/\Below W.heap.size W w'
abbrev z4:Array Value:=#[.string e0,.slice none 0 0,.string e0,.slice none 0 0]
theorem jn.off{W W':World}{v:Value}{n k B:Nat}{xs:List Value}(h:jn W v n k xs)(hB:W.heap[B]?=some (.cells z4 60)){j:Nat}{u:Value}(hu:xs[j]?=some u)(hne:∀i:Nat,z4[i]?≠some u)(hk:∀b,b≠B->W'.heap[b]?=W.heap[b]?):jn W' v n k xs:=by
 obtain⟨o,p,a,q,r,s,c,t⟩:=h;refine⟨o,p,a,q,r,s,c,fun w=>?_⟩;obtain⟨b,d,f,e,m,x,g,y,z,l⟩:=t w;refine⟨b,d,f,e,m,x,(hk b (fun A=>?_)).trans g,y,z,l⟩;rw[A,hB]at g;cases g;exact hne _ (l j u hu)
theorem BI{u:Value}(h1:u≠.string e0)(h2:u≠.slice none 0 0):∀i:Nat,z4[i]?≠some u:=by
 intro i h;rcases i with _|_|_|_|i
 ·exact h1 (Option.some.inj h).symm
 ·exact h2 (Option.some.inj h).symm
 ·exact h1 (Option.some.inj h).symm
 ·exact h2 (Option.some.inj h).symm
 cases h
theorem dw.off{W W':World}{cv dv:Value}{B:Nat}(h:dw W cv dv ea)(hB:W.heap[B]?=some (.cells z4 60))(hk:∀b,b≠B->W'.heap[b]?=W.heap[b]?):dw W' cv dv ea:=by
 obtain⟨d,ps,c,e,f⟩:=h;refine⟨jn.off d hB (j:=1) (u:=.int .i64 1) rfl (BI (by simp) (by simp)) hk,ps,c,?_,fun j g a=>?_⟩
 ·have i:∃x,ps=[x]:=List.length_eq_one_iff.1 c;obtain⟨x,rfl⟩:=i;exact jn.off e hB (j:=1) (u:=.string d') rfl (BI (by simp) (by simp)) hk
 have k:j=0:=(by have:j<1:=a;omega);subst k;exact jn.off (f 0 g a) hB (j:=0) (u:=.string tc) rfl (BI (by simp) (by simp)) hk
theorem C9(W:World):Calls prog 228 #[] W (CB ea W):=by
 have u:=aD W (.cells #[.string e0,.slice none 0 0,.string e0,.slice none 0 0] 60);have s:=z7 W (.cells #[.string e0,.slice none 0 0,.string e0,.slice none 0 0] 60);have a:=D' (W.alloc (.cells #[.string e0,.slice none 0 0,.string e0,.slice none 0 0] 60));obtain⟨Q,h⟩:=ae (W.alloc (.cells #[.string e0,.slice none 0 0,.string e0,.slice none 0 0] 60));obtain⟨B,w⟩:=ae W.heap.size;rw[h]at u s a;rw[w]at s;have F:=aa h;have z:=aa w;have A:=aa (ab u s);clear h u s w;go_enter func228,ntmps228;go_upto_region 1 with fail;rw[F.out,z.out]
 go_wp2_with (first|(go_at_call 53;refine a.mono ?_;rintro e R⟨v,rfl,x,j⟩;obtain⟨p,G,rfl,_,_⟩:=x.slice;obtain⟨b,H,cv,S,rfl,I,c0,c1,c2,c3,hT⟩:=x.tab (i:=1) (by decide);obtain⟨pc,kc,rfl,_,_⟩:=hT.c.slice;obtain⟨pd,kd,rfl,_,_⟩:=hT.d.slice;have k:=oH hT (by decide) (by decide);have J:=aa (aE j A.2);have y:=aa (aC A.1 j);clear j x)|(go_at_call 91;refine k.mono ?_;rintro e w3⟨m,n,rfl,o,l⟩;have g:=aE l J.out;have U:=aA g 0;have V:=aA g 1;have X:=aA g 2;have z3:=aA g 3;have Y:=fun i=>zq w3 B i _ _ g;have Z:=aB g;have t:=aa (ab o (ab (aC y.out l) g));clear g o l))
 have f:=mn t.2.2 (.string bh) (.slice m 4 n) (.string ue) (.slice pd 1 kd);have r:=bB t.2.1 (xn z.out) (.string bh) (.slice m 4 n) (.string ue) (.slice pd 1 kd);have E:=dw.off (W':=(((w3.setCell ⟨B,0,none⟩ (.string bh)).setCell ⟨B,1,none⟩ (.slice m 4 n)).setCell ⟨B,2,none⟩ (.string ue)).setCell ⟨B,3,none⟩ (.slice pd 1 kd)) t.1 t.2.2 (fun q L=>cA w3 B q L (.string bh) (.slice m 4 n) (.string ue) (.slice pd 1 kd));show bodyPost prog Tryz.f228 (CB ea W) Exit.ret _ ((((w3.setCell ⟨B,0,none⟩ (.string bh)).setCell ⟨B,1,none⟩ (.slice m 4 n)).setCell ⟨B,2,none⟩ (.string ue)).setCell ⟨B,3,none⟩ (.slice pd 1 kd));generalize (((w3.setCell _ _).setCell _ _).setCell _ _).setCell _ _=wz at f r E ⊢;have M:=aA f 0;have N:=aA f 1;have O:=aA f 2;have P:=aA f 3;refine y8 (v:=.agg #[.string bh,(.slice m 4 n),.string ue,(.slice pd 1 kd)]) (by simp[results,results228,go_sem,M,N,O,P]) rfl ?_;exact⟨_,_,rfl,E,r⟩
abbrev sk(id:Int)(city:ByteArray):List T3:=[(1,id,e0),(2,0,city),z3,z3]
theorem yD(id:Int)(city:ByteArray)(W:World):Calls prog 229 #[.int .i64 id,.string city] W fun e w'=>e=.returned (.slice (some ⟨W.heap.size,0,none⟩) 4 4)/\ac w' W.heap.size 32 3 (.slice (some ⟨W.heap.size,0,none⟩) 4 4) 4 (cells3 (sk id city))/\Below W.heap.size W w':=by
 go_enter func229,ntmps229;go_wp2_with fail;go_ret;exact⟨rfl,⟨rfl,.inr ⟨_,4,_,rfl,zo _,z7 W _,zo _,by decide,by simp,rfl⟩⟩,aD W _⟩
def St(W w:World)(tb next:Nat)(A:List R1):Prop:=∃lab,Tb w tb ea next A lab/\(∀b,lab b≠0->W.heap.size<=b)/\Below W.heap.size W w
section
variable{W w w' w0:World}{tb next:Nat}{A:List R1}
theorem St.later(h:St W w tb next A)(hb:Below w.heap.size w w'):St W w' tb next A:=by
 obtain⟨lab,b,c,a⟩:=h;exact⟨lab,b.later hb,c,a.trans (hb.mono a.size)⟩
theorem St.bel(h:St W w tb next A):Below W.heap.size W w:=by obtain⟨lab,b,c,a⟩:=h;exact a
theorem qG{A':List R1}{next':Nat}{lab lab':Nat->Nat}(h2:∀b,lab b≠0->W.heap.size<=b)(h3:Below W.heap.size W w)(k1:Tb w' tb ea next' A' lab')(k2:Ext w lab lab')(k3:Tn (fun b=>lab b≠0) w w'):St W w' tb next' A':=by
 refine⟨lab',k1,fun b c=>?_,h3.trans (k3.chg.below h3.size (fun b c d=>?_))⟩
 ·rcases wm b w.heap.size with a|e
  ·exact h2 b (by rw[<-k2 b a];exact c)
  have:=h3.size;omega
 have:=h2 b d;omega
theorem Gq{cv dv:Value}(h:dw w cv dv ea)(hb:Below W.heap.size W w):Calls prog 39 #[.agg #[.string ea.nm,cv,.string ea.key,dv]] w fun e w'=>∃tb,e=.returned (.pointer (some ⟨tb,0,none⟩))/\St W w' tb 0 []:=by
 refine(mM h mO yC).mono ?_;rintro e w'⟨tb,lab,rfl,c,d,f⟩;exact⟨tb,rfl,lab,c,fun b a=>zx hb.size (d b a),hb.trans (f.mono hb.size)⟩
theorem Cs(h:St W w0 tb next A)(hb:Below w0.heap.size w0 w){v:Value}{vals:List T3}(hr:ac w w0.heap.size 32 3 v vals.length (cells3 vals))(hn:next<=590)(hs:∀x∈vals,x.2.2.size<=maxLen)(hok:ei ea vals=0):Calls prog 57 #[.pointer (some ⟨tb,0,none⟩),v] w fun e w'=>e=.returned (.tuple #[.int .i64 (next:Int),.int .i64 0])/\St W w' tb (next+1) (A++[((next:Int),vals)]):=by
 have j:vals.length<=1000000:=by
  unfold ei at hok;have q:ea.cols.length=4:=rfl;by_cases e:vals.length=ea.cols.length
  ·omega
  rw[zw e]at hok;cases hok
 obtain⟨lab,g,k,a⟩:=h;have l:=g.later hb;have m:Below W.heap.size W w:=a.trans (hb.mono a.size);have c:=g.lt
 refine(mI l (fk.my hr rfl) (fun b d=>Classical.byContradiction fun f=>by
  have:=(ac.lt hr b d).1
  have:=c b f
  omega) hn (by decide) hs j hok).mono ?_
 rintro e w'⟨rfl,i,n,o,p⟩;exact⟨rfl,qG k m n o p⟩
theorem FQ(h:St W w tb next A)(hn:next<65536):Calls prog 57 #[.pointer (some ⟨tb,0,none⟩),.slice none 0 0] w fun e w'=>e=.returned (.tuple #[.int .i64 0,.int .i64 1])/\St W w' tb next A:=by
 obtain⟨lab,a,b,c⟩:=h;refine(oJ (S:=fun _=>False) (vals:=[]) a ⟨none,0,rfl,zo _,zj _,fun h=>absurd h (vu _)⟩ hn (by decide) (fun x d=>by cases d) (zj _) (by decide)).mono ?_;rintro e w'⟨rfl,f⟩;exact⟨rfl,St.later ⟨lab,a,b,c⟩ f⟩
theorem Em(h:St W w tb next A){a:R1}(ha:a∈A)(hn:next<=800):Calls prog 24 #[.pointer (some ⟨tb,0,none⟩),.int .i64 a.1] w fun e w'=>e=.returned (.bool true)/\St W w' tb next (without A a.1):=by
 obtain⟨lab,c,d,f⟩:=h;refine(mJ c ha hn (by decide)).mono ?_;rintro e w'⟨rfl,b,g,i,j⟩;exact⟨rfl,qG d f g i j⟩
theorem GA(h:St W w tb next A){a:R1}(ha:a∈A)(hn:next<=800){y:ByteArray}{j:Nat}(hj:j<ea.cols.length)(hy:fx ea.cols y=(j:Int))(k n1:Int)(s:ByteArray)(hs:s.size<=maxLen)(hin:lq ea.cols[j].kd (k,n1,s)=true):Calls prog 60 #[.pointer (some ⟨tb,0,none⟩),.int .i64 a.1,.string y,.agg #[.int .i64 k,.int .i64 n1,.string s]] w fun e w'=>e=.returned (.int .i64 0)/\St W w' tb next (ph A a.1 j (k,n1,s)):=by
 obtain⟨lab,c,d,f⟩:=h;refine(mK c ha hn hj hy k n1 s hs hin).mono ?_;rintro e w'⟨rfl,b,g,i,l⟩;exact⟨rfl,qG d f g i l⟩
theorem EG(h:St W w tb next A){a:R1}(ha:a∈A):Calls prog 191 #[.pointer (some ⟨tb,0,none⟩),.int .i64 a.1] w fun e w'=>∃g c,e=.returned (.tuple #[.slice (some ⟨g,0,none⟩) 4 c,.bool true])/\ac w' w.heap.size 32 3 (.slice (some ⟨g,0,none⟩) 4 c) 4 (cells3 a.2)/\Below w.heap.size w w':=by
 obtain⟨lab,b,i,j⟩:=h;refine(gJ b ha (by decide) (by decide)).mono ?_;rintro e w'⟨g,c,rfl,_,d,f⟩;exact⟨g,c,rfl,d,f⟩
theorem Ie(h:St W w tb next A){a:R1}(ha:a∈A){y:ByteArray}{k:Nat}(hk:k<ea.cols.length)(hy:fx ea.cols y=(k:Int)){u:T3}(hu:a.2[k]?=some u):Calls prog 45 #[.pointer (some ⟨tb,0,none⟩),.int .i64 a.1,.string y] w fun e w'=>e=.returned (.tuple #[.agg #[.int .i64 u.1,.int .i64 u.2.1,.string u.2.2],.bool true])/\Below w.heap.size w w':=by
 obtain⟨lab,b,c,d⟩:=h;exact gK b ha hk hy hu
theorem Du(h:St W w tb next A)(hn:next<=590):Calls prog 159 #[.pointer (some ⟨tb,0,none⟩)] w fun e w'=>∃ob,e=.returned (.pointer (some ⟨ob,0,none⟩))/\St W w' ob next A/\Below w.heap.size w w':=by
 obtain⟨lab,f,k,c⟩:=h;refine(yB f mO yC hn (by decide)).mono ?_;rintro e w'⟨ob,a,rfl,g,i,d⟩;exact⟨ob,rfl,⟨a,g,fun b j=>zx c.size (i b j),c.trans (d.mono c.size)⟩,d⟩
theorem qH(h:St W w tb next A):Calls prog 230 #[.pointer (some ⟨tb,0,none⟩)] w fun e w'=>e=.returned (.int .i64 (next:Int))/\w'=w:=by
 obtain⟨lab,a,b,c⟩:=h;exact xX a
theorem Gd(h:St W w tb next A):Calls prog 15 #[.pointer (some ⟨tb,0,none⟩)] w fun e w'=>∃p n c,e=.returned (.agg #[.slice p n c])/\Below w.heap.size w w'/\Calls prog 9 #[.agg #[.slice p n c]] w' fun e i=>e=.returned (.int .i64 (A.length:Int))/\Below w'.heap.size w' i:=by
 obtain⟨lab,a,k,m⟩:=h;refine(eM a).mono ?_;rintro e w'⟨p,n,c,rfl,b,j⟩;refine⟨p,n,c,rfl,j,?_⟩;have d:=Ca b;obtain⟨l,_,f,g⟩:=b;rw[<-g.els f,fR f g a.srt,yd]at d;exact d
theorem FP(h:St W w tb next A){x:ByteArray}{k:Nat}(hk:k<ea.cols.length)(hx:fx ea.cols x=(k:Int))(m:List (K 12))(hm:m.Nodup)(hs:∀s,s∈m↔∃a∈A,∃y,a.2[k]?=some y/\y.1=2/\wd y.2.2=s):Calls prog 193 #[.pointer (some ⟨tb,0,none⟩),.string x] w fun e w'=>e=.returned (.int .i64 (m.length:Int))/\Below w.heap.size w w':=by
 obtain⟨lab,b,c,d⟩:=h;exact rZ b hk hx m hm hs
theorem Ga(h:St W w tb next A):Calls prog 231 #[.pointer (some ⟨tb,0,none⟩)] w fun e w'=>∃a c1 b c2 ps,e=.returned (.agg #[.string ea.nm,.slice a 4 c1,.string ea.key,.slice b 1 c2])/\fw w' w.heap.size (.slice a 4 c1) (.slice b 1 c2) ea ps/\Below w.heap.size w w':=by
 obtain⟨lab,c,g,i⟩:=h;refine(If c mO).mono ?_;rintro e w'⟨a,c1,b,c2,ps,rfl,d,f⟩;exact⟨a,c1,b,c2,ps,rfl,d,f⟩
end
abbrev bx:ByteArray:=⟨#[120]⟩
abbrev by':ByteArray:=⟨#[121]⟩
abbrev bz:ByteArray:=⟨#[122]⟩
abbrev bzone:ByteArray:=⟨#[122,111,110,101]⟩
abbrev bcity:ByteArray:=⟨#[99,105,116,121]⟩
abbrev bshop:ByteArray:=⟨#[115,104,111,112]⟩
abbrev A4:List R1:=[(1,[(1,8,e0),(2,0,by'),(2,0,bz),z3])]
theorem Fj:∀s,s∈[wd by']↔∃a∈A4,∃y,a.2[1]?=some y/\y.1=2/\wd y.2.2=s:=fun s=>⟨fun h=>⟨_,List.mem_singleton.2 rfl,_,rfl,rfl,(List.mem_singleton.1 h).symm⟩,fun⟨a,ha,y,hy,_,he⟩=>by
 obtain rfl:=List.mem_singleton.1 ha;cases hy;rw[<-he];exact List.mem_singleton.2 rfl⟩
theorem Ho(nm key:ByteArray)(a b:Value)(w:World):(Instr.field 60 (.agg #[.string nm,a,.string key,b]) 0).run prog w=.ok (.string nm) w:=by kernel_rfl
theorem fS{l:List T3}(h:∀x∈l,x.2.2.size<=12):∀x∈l,x.2.2.size<=maxLen:=fun x a=>zx (h x a) (by unfold maxLen;omega)
theorem Ih(W:World):Calls prog 225 #[] W fun e w'=>e=.returned (.bool true)/\Below W.heap.size W w':=by
 have h:=C9 W;go_enter func225,ntmps225
 go_upto_region 11 with (first|(go_at_call 228;(with_reducible refine h.mono ?_);rintro e w1⟨cv,dv,rfl,hT,Z⟩;have J:=Gq hT Z;clear h hT Z)|(go_at_call 39;(with_reducible refine J.mono ?_);rintro e w2⟨tb,rfl,S2⟩;have i:=yD 7 bx w2;have S2:=aa S2;clear J)|(go_at_call 229;(with_reducible refine i.mono ?_);rintro e w3⟨rfl,hr,l⟩;have m:Calls prog 57 #[.pointer (some ⟨tb,0,none⟩),.slice (some ⟨w2.heap.size,0,none⟩) 4 4] w3 fun e w'=>e=.returned (.tuple #[.int .i64 0,.int .i64 0])/\St W w' tb 1 [(0,sk 7 bx)]:=Cs S2.out l hr (by decide) (fS (by decide)) (by decide);clear i hr l)|(go_at_call 57;(with_reducible refine m.mono ?_);rintro e w4⟨rfl,S4⟩;have o:=yD 8 by' w4;have S4:=aa S4;clear m S2)|(go_at_call 229;(with_reducible refine o.mono ?_);rintro e w5⟨rfl,hr,l⟩;have q:Calls prog 57 #[.pointer (some ⟨tb,0,none⟩),.slice (some ⟨w4.heap.size,0,none⟩) 4 4] w5 fun e w'=>e=.returned (.tuple #[.int .i64 1,.int .i64 0])/\St W w' tb 2 [(0,sk 7 bx),(1,sk 8 by')]:=Cs S4.out l hr (by decide) (fS (by decide)) (by decide);clear o hr l)|(go_at_call 57;(with_reducible refine q.mono ?_);rintro e w6⟨rfl,S6⟩;have r:=FQ S6 (by decide);clear q S4 S6)|(go_at_call 57;(with_reducible refine r.mono ?_);rintro e w7⟨rfl,S7⟩;have L:Calls prog 24 #[.pointer (some ⟨tb,0,none⟩),.int .i64 0] w7 fun e w'=>e=.returned (.bool true)/\St W w' tb 2 [(1,sk 8 by')]:=Em S7 (a:=(0,sk 7 bx)) (by simp) (by decide);clear r S7)|(go_at_call 24;(with_reducible refine L.mono ?_);rintro e w8⟨rfl,S8⟩;have M:Calls prog 60 #[.pointer (some ⟨tb,0,none⟩),.int .i64 1,.string bzone,.agg #[.int .i64 2,.int .i64 0,.string bz]] w8 fun e w'=>e=.returned (.int .i64 0)/\St W w' tb 2 A4:=GA S8 (a:=(1,sk 8 by')) (by simp) (by decide) (j:=2) (by decide) (by decide) 2 0 bz (by decide) (by decide);clear L S8)|(go_at_call 60;(with_reducible refine M.mono ?_);rintro e w9⟨rfl,S9⟩;have s:Calls prog 191 #[.pointer (some ⟨tb,0,none⟩),.int .i64 1] w9 _:=EG S9 (a:=(1,[(1,8,e0),(2,0,by'),(2,0,bz),z3])) (by simp);have S9:=aa S9;clear M)|(go_at_call 191;(with_reducible refine s.mono ?_);rintro e U⟨g,c,rfl,_,N⟩;have t:=S9.out.later N;have O:Calls prog 45 #[.pointer (some ⟨tb,0,none⟩),.int .i64 1,.string bzone] U fun e w'=>e=.returned (.tuple #[.agg #[.int .i64 2,.int .i64 0,.string bz],.bool true])/\Below U.heap.size U w':=Ie t (a:=(1,[(1,8,e0),(2,0,by'),(2,0,bz),z3])) (by simp) (k:=2) (by decide) (by decide) (u:=(2,0,bz)) rfl;have t:=aa t;clear s N S9)|(go_at_call 45;(with_reducible refine O.mono ?_);rintro e F⟨rfl,P⟩;have a0:=aa (t.out.later P);clear O P t))
 have f:=a0.out.later (aD F (.cells #[.int .i64 2,.int .i64 0,.string bz] 32));have hV:=z7 F (.cells #[.int .i64 2,.int .i64 0,.string bz] 32);obtain⟨b4,Q⟩:=ae (F.alloc (.cells #[.int .i64 2,.int .i64 0,.string bz] 32));obtain⟨V,a1⟩:=ae F.heap.size;rw[Q]at f hV ⊢;rw[a1]at hV ⊢;clear Q a1 a0;have v:=Du f (by decide);have f:=aa f;have hV:=aa hV
 go_wp2_with (first|(go_at_call 159;refine v.mono ?_;rintro e G⟨ob,rfl,H,w⟩;have x:=f.out.later w;have R:=aE w hV.out;have v2:=aA R 2;have a2:Calls prog 230 #[.pointer (some ⟨tb,0,none⟩)] G fun e w'=>e=.returned (.int .i64 2)/\w'=G:=qH x;have b5:Calls prog 230 #[.pointer (some ⟨ob,0,none⟩)] G fun e w'=>e=.returned (.int .i64 2)/\w'=G:=qH H;have y:=Gd x;have x:=aa x;have H:=aa H;clear v f w R)|(go_at_call 230;(with_reducible refine a2.mono ?_);rintro e a6⟨rfl,hw⟩;subst a6;clear a2)|(go_at_call 15;refine y.mono ?_;rintro e X⟨p,n,cc,rfl,z,b⟩;have b:Calls prog 9 #[.agg #[.slice p n cc]] X fun e w2=>e=.returned (.int .i64 1)/\Below X.heap.size X w2:=b;have a7:=aa (x.out.later z);have a8:=aa (H.out.later z);clear y z)|(go_at_call 9;refine b.mono ?_;rintro e Y⟨rfl,A⟩;have a3:=aa (a7.out.later A);have a9:=aa (a8.out.later A);have d:Calls prog 193 #[.pointer (some ⟨tb,0,none⟩),.string bcity] Y fun e w'=>e=.returned (.int .i64 1)/\Below Y.heap.size Y w':=FP a3.out (k:=1) (by decide) (by decide) [wd by'] (by simp) Fj;clear b A)|(go_at_call 193;refine d.mono ?_;rintro e a4⟨rfl,B⟩;have I:=a3.out.later B;have a5:Calls prog 230 #[.pointer (some ⟨ob,0,none⟩)] a4 fun e w'=>e=.returned (.int .i64 2)/\w'=a4:=qH (a9.out.later B);have E:=Ga I;have I:=aa I;clear d B)|(go_at_call 230;(with_reducible refine a5.mono ?_);rintro e b0⟨rfl,hw⟩;subst b0;clear a5)|(go_at_call 231;refine E.mono ?_;rintro e b1⟨p1,c1,p2,c2,ps,rfl,_,S⟩;have b2:=aa (I.out.later S);have b3:ea.nm=bshop:=rfl;rw[b3];have b6:=Ho bshop ea.key (.slice p1 4 c1) (.slice p2 1 c2) b1;clear E S))
 go_ret;exact⟨rfl,b2.out.bel⟩
