import Derived.Test.YthlccadnojnkaaaGreatZn19
set_option maxHeartbeats 4000000
set_option maxRecDepth 100000
namespace Go.Proofs.YthlccadnojnkaaaGreat
open Go.Proofs.Tryz
open Go Go.RowKit Go.Proofs Co Co.S
def eb(S:Nat->Prop)(W:World)(v:Value)(l:List T3):Prop:=∃p cap,v=.slice p l.length cap/\l.length<=cap/\cap<=maxLen/\(0<l.length->∃b off,p=some ⟨b,off,none⟩/\b<W.heap.size/\S b/\∀j u,(cells3 l)[j]?=some u->W.cell? ⟨b,off+j,none⟩=some u)
section
variable {S T1:Nat->Prop}{W W':World}{v:Value}{l:List T3}
theorem eb.tn(h:eb S W v l)(hk:Tn T1 W W')(hs:∀b,S b->¬ T1 b):eb S W' v l:=by
 obtain⟨p,a,f,g,i,k⟩:=h;refine⟨p,a,f,g,i,fun m=>?_⟩;obtain⟨b,c,n,d,e,o⟩:=k m;exact⟨b,c,n,z9 d hk.size,e,fun j u q=>(za (w:=W) (hk.chg.block b d (hs b e))).trans (o j u q)⟩
theorem eb.later(h:eb S W v l)(hb:Below W.heap.size W W'):eb S W' v l:=h.tn (T1:=fun _=>False) (Tn.of_below hb) (fun _ _ h=>h)
theorem eb.mono(h:eb S W v l)(hs:∀b,b<W.heap.size->S b->T1 b):eb T1 W v l:=by
 obtain⟨p,a,e,f,g,i⟩:=h;refine⟨p,a,e,f,g,fun j=>?_⟩;obtain⟨b,c,k,d,m,n⟩:=i j;exact⟨b,c,k,d,hs b d m,n⟩
theorem eb.slice(h:eb S W v l):∃p a,v=.slice p l.length a/\l.length<=a/\a<=maxLen:=by
 obtain⟨p,a,b,c,d,e⟩:=h;exact⟨p,a,b,c,d⟩
theorem eb.val{p:Option Addr}{n cap j:Nat}(h:eb S W (.slice p n cap) l)(hj:j<l.length):∃b a,p=some ⟨b,a,none⟩/\b<W.heap.size/\W.cell? ⟨b,a+j*3,none⟩=some (.int .i64 l[j].1)/\W.cell? ⟨b,a+j*3+1,none⟩=some (.int .i64 l[j].2.1)/\W.cell? ⟨b,a+j*3+2,none⟩=some (.string l[j].2.2):=by
 obtain⟨k,d,e,m,o,f⟩:=h;cases e;obtain⟨b,a,g,i,q,c⟩:=f (by omega);obtain⟨c0,c1,c2⟩:=dG l j hj;exact⟨b,a,g,i,c _ _ c0,c _ _ c1,c _ _ c2⟩
theorem eb.jk{base:Nat}{n:Nat}(h:ac W base 32 3 v n (cells3 l))(hn:l.length=n):eb (fun b=>v.ownBlock=some b) W v l:=by
 subst hn;rcases h.2 with ⟨rfl,c⟩ | ⟨g,a,d,rfl,_,e,f,i,_,_⟩
 ·exact⟨none,0,by rw[c],by omega,zh _,fun h=>by omega⟩
 exact⟨_,a,rfl,f,i,fun _=>⟨g,0,rfl,aC e,rfl,fun j u k=>by rw[xq];exact h.cell k⟩⟩
end
def oi{α:Type}(f:Nat->α)(k:Nat)(x:α):Nat->α:=fun j=>if j=k then x else f j
theorem bM{α:Type}(f:Nat->α)(k:Nat)(x:α):oi f k x k=x:=zv rfl
theorem bC{α:Type}(f:Nat->α){k j:Nat}(x:α)(h:j≠k):oi f k x j=f j:=zq h
section
variable {W W':World}{tb next:Nat}{t:T}{i:In}{lab lab':Nat->Nat}
theorem wl.relab(h:wl W tb t next i lab)(he:∀b,lab b≠0->lab' b=lab b)(hlt:∀b,lab' b≠0->b<W.heap.size):wl W tb t next i lab':=by
 have e:∀b q,lab b=q->q≠0->lab' b=q:=(fun b q d f=>by rw[he b (by rw[d];exact f),d]);exact⟨h.form,h.cols,h.col,h.place,h.pm,h.free,h.gone,h.late,e _ _ h.l1 (by decide),fun b a=>e _ _ (h.l2 b a) (by decide),fun b a=>e _ _ (h.l3 b a) (by decide),fun b a=>e _ _ (h.l4 b a) (by decide),fun k c=>e _ _ (h.l6 k c) (by omega),fun k c b a=>e _ _ (h.l7 k c b a) (by omega),hlt⟩
def ij(lab:Nat->Nat)(o:Option Nat)(q:Nat):Nat->Nat:=fun b=>if o=some b then q else lab b
theorem gC{o:Option Nat}{q:Nat}(h:∀b,o=some b->lab b=q∨W.heap.size<=b):Ext W lab (ij lab o q):=fun b c=>by
 unfold ij;split
 ·rename_i e;rcases h b e with a|a
  ·exact a.symm
  ·omega
 ·rfl
theorem jE{o:Option Nat}{q:Nat}(h:∀b,lab b≠0->b<W.heap.size)(he:Ext W lab (ij lab o q)):∀b,lab b≠0->ij lab o q b=lab b:=fun b a=>he b (h b a)
theorem jF{o:Option Nat}{q:Nat}(h:∀b,lab b≠0->b<W.heap.size)(hs:W.heap.size<=W'.heap.size)(ho:∀b,o=some b->b<W'.heap.size):∀b,ij lab o q b≠0->b<W'.heap.size:=fun b a=>by
 unfold ij at a;split at a
 ·rename_i e;exact ho b e
 ·exact z9 (h b a) hs
theorem gD{o:Option Nat}{q:Nat}:∀b,o=some b->ij lab o q b=q:=fun _ a=>zv a
theorem fh.setcol(h:fh W tb t next i lab){k:Nat}(hk:k<t.cols.length){l':List T3}{v':Value}(hcol:Col (i.cb k) t.cols[k].kd l' v' W')(hchg:Chg (fun b=>b=i.cb k∨(i.v k).ownBlock=some b) W W')(hv:∀q,v'.ownBlock=some q->(i.v k).ownBlock=some q∨W.heap.size<=q):∃lab',fh W' tb t next { i with cl:=oi i.cl k l',v:=oi i.v k v' } lab'/\Ext W lab lab'/\Tn (fun b=>lab b≠0) W W':=by
 have p:=(h.col k hk).ty
 have d:Tn (fun b=>b=i.cb k∨(i.v k).ownBlock=some b) W W':=Tn.bq hchg (fun b _ a=>.inl (by
  rcases a with rfl|a
  ·exact p.1
  exact p.2 b a))
 have f:∀b,(b=i.cb k∨(i.v k).ownBlock=some b)->lab b=6+2*k∨lab b=7+2*k:=fun b a=>by
  rcases a with rfl|a
  ·exact .inl (h.l6 k hk)
  exact .inr (h.l7 k hk b a)
 have m:∀b q,lab b=q->q≠6+2*k->q≠7+2*k->¬ (b=i.cb k∨(i.v k).ownBlock=some b):=fun b q e g r a=>by
  rcases f b a with s|s
  ·exact g (by rw[<-e,s])
  exact r (by rw[<-e,s])
 have c:∀b q,lab b=q->q≠0->q≠6+2*k->q≠7+2*k->W'.heap[b]?=W.heap[b]?:=(fun b q e w g r=>hchg.block b (h.lt b (by rw[e];exact w)) (m b q e g r));have l:Ext W lab (ij lab v'.ownBlock (7+2*k)):=gC (fun b a=>(hv b a).imp (h.l7 k hk b) id);have u:=jE h.lt l;have e:∀b q,lab b=q->q≠0->ij lab v'.ownBlock (7+2*k) b=q:=fun b q g r=>by rw[u b (by rw[g];exact r),g]
 refine⟨ij lab v'.ownBlock (7+2*k),⟨⟨h.form.tn d,h.cols.tn d rfl,fun j n=>?_,h.place.of (fun b a=>c b 2 (h.l2 b a) (by decide) (by omega) (by omega)),h.pm,h.free.of (fun b a=>c b 3 (h.l3 b a) (by decide) (by omega) (by omega)),h.gone.tn d,
  h.late.of (fun b a=>c b 4 (h.l4 b a) (by decide) (by omega) (by omega)),e _ _ h.l1 (by decide),fun b a=>e _ _ (h.l2 b a) (by decide),fun b a=>e _ _ (h.l3 b a) (by decide),fun b a=>e _ _ (h.l4 b a) (by decide),fun j n=>e _ _ (h.l6 j n) (by omega),fun j n b a=>?_,jF h.lt hchg.size hcol.rlt⟩,(c tb 1 h.l1 (by decide) (by omega) (by omega)).trans h.box⟩,l,d.mono (fun b _ a=>by rcases f b a with g|g <;> omega)⟩
 ·show Col (i.cb j) t.cols[j].kd (oi i.cl k l' j) (oi i.v k v' j) W';by_cases o:j=k
  ·subst o;rw[bM,bM];exact hcol
  rw[bC _ _ o,bC _ _ o];exact(h.col j n).tn d (m _ _ (h.l6 j n) (by omega) (by omega)) (fun b a=>m _ _ (h.l7 j n b a) (by omega) (by omega))
 have a:(oi i.v k v' j).ownBlock=some b:=a;by_cases o:j=k
 ·subst o;rw[bM]at a;exact gD b a
 rw[bC _ _ o]at a;exact e _ _ (h.l7 j n b a) (by omega)
theorem fh.setmap(h:fh W tb t next i lab)(hn:i.np=0)(hf:∀x,i.f x=none):∃lab',fh ((W.alloc (.map #[] 0)).setCell ⟨tb,5,none⟩ (.map (some W.heap.size))) tb t next { i with pv:=.map (some W.heap.size),m:=0 } lab'/\Ext W lab lab'/\Tn (fun b=>lab b≠0) W ((W.alloc (.map #[] 0)).setCell ⟨tb,5,none⟩ (.map (some W.heap.size))):=by
 have a:=aD W (.map #[] 0);have g:=h.later a;have e:=Tn.own g 5 (.map (some W.heap.size));have d:Ext W lab (ij lab (some W.heap.size) 2):=gC (fun b a=>.inr (by cases a;exact zm _));have j:=jE h.lt d;have c:wl ((W.alloc (.map #[] 0)).setCell ⟨tb,5,none⟩ (.map (some W.heap.size))) tb t next i (ij lab (some W.heap.size) 2):=(g.towl.tn e (fun b a=>.inr a)).relab j (jF h.lt (by simp[World.setCell]) (fun b a=>by cases a;simp[World.setCell]));have k:W.heap.size≠tb:=(by have:=h.tlt;omega);refine⟨_,⟨⟨c.form,c.cols,c.col,?_,zh _,c.free,c.gone,c.late,c.l1,fun b a=>?_,c.l3,c.l4,c.l6,c.l7,c.lt⟩,y9 _ tb 5 _ _ _ g.box⟩,d,(Tn.of_below a).trans e (S:=fun _=>False) (fun _ _ h=>h.elim) (fun b _ a=>by show lab b≠0;rw[show lab b=1 from a];decide)⟩
 ·refine .inr ⟨W.heap.size,rfl,?_⟩;show Mi _ W.heap.size i.f i.np 0;rw[hn,show i.f=fun _=>none from funext hf];exact(Mi.made W).of (yd _ ⟨tb,5,none⟩ _ _ k)
 cases a;exact gD _ rfl
theorem fh.setfree(h:fh W tb t next i lab){g n c:Nat}{fr:List Nat}{p:Nat}(hfv:i.fv=.slice (some ⟨g,0,none⟩) n c)(hfr:i.free=fr++[p])(hn:fr.length+1=n):fh (W.setCell ⟨tb,6,none⟩ (.slice (some ⟨g,0,none⟩) fr.length c)) tb t next { i with fv:=.slice (some ⟨g,0,none⟩) fr.length c,free:=fr } lab/\Tn (fun b=>lab b≠0) W (W.setCell ⟨tb,6,none⟩ (.slice (some ⟨g,0,none⟩) fr.length c)):=by
 have e:=Tn.own h 6 (.slice (some ⟨g,0,none⟩) fr.length c);have a:=h.towl.tn e (fun b f=>.inr f);have k:=a.free;rw[hfv,hfr]at k;refine⟨⟨⟨a.form,a.cols,a.col,a.place,a.pm,?_,a.gone,a.late,a.l1,a.l2,fun b f=>a.l3 b (by rw[hfv];exact f),a.l4,a.l6,a.l7,a.lt⟩,y9 _ tb 6 _ _ _ h.box⟩,e.mono (fun b _ f=>by show lab b≠0;rw[show lab b=1 from f];decide)⟩;have j:(fr++[p]).length=n:=(by simp;exact hn);rw[j]at k;obtain⟨d,r,l,s,m,o,q⟩:=k.form;refine⟨by simp,.inr ⟨g,c,d,rfl,zh _,l,by show fr.length<=c;omega,m,o,?_⟩⟩;show d.toList.take (fr.length*1)=fr.map ivn;have:d.toList.take (fr.length*1)=(d.toList.take (n*1)).take (fr.length*1):=(by rw[List.take_take];congr 1 <;> omega);rw[this,q]
 simp
theorem fh.setput(h:fh W tb t next i lab){b:Nat}(hpv:i.pv=.map (some b)){x:Int}{p:Nat}(hx:kj x)(hp:p<=1000000)(hf:i.f x=none)(u:i.m+1<=next)(hn:next<=1000000):∃w',(Instr.mapUpdate 114 (.map (some b)) (.int .i64 x) (.int .i64 (p:Int))).run prog W=.ok () w'/\fh w' tb t next { i with f:=tu i.f x p,np:=i.np+1,m:=i.m+1 } lab/\Tn (fun b=>lab b≠0) W w':=by
 have n:Mi W b i.f i.np i.m:=by
  rcases h.place with ⟨e,_⟩ | ⟨I,e,u⟩
  ·rw[hpv]at e;cases e
  rw[hpv]at e;cases e;exact u
 obtain⟨y,z,o⟩:=n.isMap;obtain⟨w',r,v,A⟩:=n.put hx hp hf (by omega);have s:lab b=2:=h.l2 b (by rw[hpv];rfl);have a:Tn (fun c=>c=b) W w':=Tn.bq ((Chg.refl (fun c=>c=b) W).grown A (fun k B _=>by cases B;rfl)) (fun c _ g=>.inr ⟨y,z,by rw[g];exact o⟩);have l:∀c q,lab c=q->q≠2->c≠b:=(fun c q e E F=>E (by rw[<-e,F];exact s));have d:∀c q,lab c=q->q≠0->q≠2->w'.heap[c]?=W.heap[c]?:=fun c q e G H=>a.chg.block c (h.lt c (by rw[e];exact G)) (l c q e H)
 refine⟨w',r,⟨⟨h.form.tn a,h.cols.tn a rfl,fun j w=>(h.col j w).tn a (l _ _ (h.l6 j w) (by omega)) (fun c g=>l _ _ (h.l7 j w c g) (by omega)),.inr ⟨b,hpv,v⟩,u,h.free.of (fun c g=>d c 3 (h.l3 c g) (by decide) (by decide)),h.gone.tn a,
  h.late.of (fun c g=>d c 4 (h.l4 c g) (by decide) (by decide)),h.l1,h.l2,h.l3,h.l4,h.l6,h.l7,fun c g=>z9 (h.lt c g) a.size⟩,(d tb 1 h.l1 (by decide) (by decide)).trans h.box⟩,a.mono (fun c _ g=>by show lab c≠0;rw[show c=b from g,s];decide)⟩
end
def AS(t:T)(vals:List T3)(k:Nat):Bool:=match t.cols[k]?,vals[k]? with
 | some c,some x=>lx c.kd x
 | _,_=>false
def gu(t:T)(vals:List T3):Bool:=(List.range t.cols.length).all (AS t vals)
theorem jY{n:Nat}{f:Nat->Bool}(h:∀j,j<n->f j=true):(List.range n).all f=true:=by
 rw[xp];intro x a;exact h x (List.mem_range.1 a)
theorem Gw{n:Nat}{f:Nat->Bool}(j:Nat)(hj:j<n)(h:f j=false):(List.range n).all f=false:=by
 rw[List.all_eq_false];exact⟨j,List.mem_range.2 hj,by simp[h]⟩
theorem qY{t:T}{vals:List T3}{k:Nat}(hk:k<t.cols.length)(hv:k<vals.length):AS t vals k=lx t.cols[k].kd vals[k]:=by
 unfold AS;rw[z6 hk,z6 hv]
theorem Hn{t:T}{vals:List T3}(h:gu t vals=true){k:Nat}(hk:k<t.cols.length)(hv:k<vals.length):lx t.cols[k].kd vals[k]=true:=by
 rw[<-qY hk hv];exact List.all_eq_true.1 h k (List.mem_range.2 hk)
def Bc(t:T)(next:Nat)(vals:List T3):Int:=if next=65536 then 5 else if vals.length≠t.cols.length then 1 else if gu t vals then 0 else 4
theorem bL{n b:Nat}{A x:World}(h:Below n A x)(hb:n<=b)(a c d:Value):Below n A (((x.setCell ⟨b,0,none⟩ a).setCell ⟨b,1,none⟩ c).setCell ⟨b,2,none⟩ d):=
 ((h.setCell (p:=⟨b,0,none⟩) hb a).setCell (p:=⟨b,1,none⟩) hb c).setCell (p:=⟨b,2,none⟩) hb d
section
variable {W W':World}{tb next:Nat}{t:T}{i:In}{lab:Nat->Nat}
theorem tC{S:Nat->Prop}{vv:Value}{vals:List T3}(h:fh W tb t next i lab)(hv:eb S W vv vals)(hn:next<=65536)(hc:t.cols.length<=1000)(hs:∀x∈vals,x.2.2.size<=maxLen)(hl:vals.length<=1000000):Calls prog 69 #[.pointer (some ⟨tb,0,none⟩),vv] W fun e w'=>e=.returned (.int .i64 (Bc t next vals))/\Below W.heap.size W w':=by
 obtain⟨p,a0,rfl,Q,R⟩:=hv.slice;obtain⟨pc,cc,r,z,A⟩:=h.cols.isslice;have c4:=h.cells.2.2.2.2.1;have c9:=h.cells.2.2.2.2.2.2.2.2.2;have zl:=h.tlt;rw[r]at c4;obtain⟨n,d⟩:=ag t.cols.length;obtain⟨m,f⟩:=ag vals.length;rw[d]at c4 hc;rw[f]at hv Q hl ⊢;unfold maxLen at R;have U:=aa (ab h (ab hv hs));have N:=aa (ab d f);unfold Bc;rw[d,f];by_cases X:next=65536
 ·subst X;rw[zv rfl];clear h hv r d f z A hs;go_enter func69,ntmps69;go_wp2_with fail;go_ret;exact⟨rfl,zb _ _⟩
 rw[zq X];have a1:((next:Int)==65536)=false:=(by simp;omega);by_cases Y:m=n
 ·subst Y;rw[zq (fun h=>h rfl)];obtain⟨E,q⟩:=ag (if gu t vals=true then(0:Int)else 4);rw[q];have Z:=aa q;clear q;clear h hv r d f z A hs;go_enter func69,ntmps69;go_wp2_with fail;go_loopg [27] (m+1) (fun gh jv w=>∃(j:Nat),jv=.int .i64 (j:Int)/\j<=m/\m+1<=j+gh/\(∀k,k<j->AS t vals k=true)/\Below W.heap.size W w)
  case atStart=>exact⟨0,rfl,zh _,by omega,fun k L=>absurd L (yo k),zb _ _⟩
  obtain⟨j,rfl,hj,hg,s,I⟩:=hrel;by_cases B:j<m
  ·have F:j<vals.length:=(by rw[N.2];exact B);have M:j<t.cols.length:=(by rw[N.1];exact B);obtain⟨b,a2,rfl,hb,v0,v1,v2⟩:=(U.2.1.later I).val F;have v:=U.2.2 _ (z8 F);have G:=qY M F;obtain⟨u,hu⟩:=ag (vals[j]);rw[hu]at v0 v1 v2 v G;obtain⟨O,un,P⟩:=u;simp only at v0 v1 v2 v;have y:=aD wr (.cells #[.int .i64 O,.int .i64 un,.string P] 32);have g:=z7 wr (.cells #[.int .i64 O,.int .i64 un,.string P] 32);obtain⟨w2,H⟩:=ag (wr.alloc (.cells #[.int .i64 O,.int .i64 un,.string P] 32));rw[H]at y g;have a:=gZ (U.1.later (aB I y)) j M O un P v;rw[<-G]at a;obtain⟨ok,l⟩:=ag (AS t vals j);rw[l]at a;have J:=aa (ab s (aB I y));have HW:=aa H;have HO:=aa l;have x0:=aA g 0;have x1:=aA g 1;have x2:=aA g 2;have xl:=aC g;have a3:(j:Int)<(m:Int):=(by omega);clear s I y g H G hu l v hb;go_upto_region 10 with fail;rw[HW.out];cases ok with
   | true =>
    go_wp2_with (go_at_call 77;refine a.mono ?_;rintro e w3⟨rfl,o⟩;have V:=aa o;clear o);go_roundg (m-j)
    case measure=>omega
    case rel=>exact⟨j+1,by go_num,by omega,by omega,fun k L=>by
     by_cases e:k=j
     ·rw[e];exact HO.out
     ·exact J.1 k (by omega),aB J.2 V.out⟩
   | false =>
    go_wp2_with (go_at_call 77;refine a.mono ?_;rintro e w3⟨rfl,o⟩;have V:=aa o;clear o);go_ret;have c:gu t vals=false:=Gw j (by rw[N.1];exact B) HO.out;have q:=Z.out;rw[c]at q;rw[<-q];exact⟨rfl,aB J.2 V.out⟩
  obtain rfl:j=m:=(by omega);have c:gu t vals=true:=jY (fun k L=>s k (by rw[N.1]at L;exact L));have q:=Z.out;rw[c]at q;have J:=aa (ab I q);clear s I c q;go_wp2_with fail;go_ret;rw[<-J.2];exact⟨rfl,J.1⟩
 rw[zv Y];have a4:((m:Int) != (n:Int))=true:=(by simp;omega);clear h hv r d f z A hs;go_enter func69,ntmps69;go_wp2_with fail;go_ret;exact⟨rfl,zb _ _⟩
end
def ex(l:List T3)(p:Nat)(x:T3):List T3:=if p<l.length then l.set p x else l++[x]
def spot(i:In):Nat:=(i.free.getLast?).getD i.np
def mo(W:World)(tb:Nat)(t:T)(next:Nat)(i:In)(lab:Nat->Nat)(id:Int)(at':Nat)(vals:List T3)(j:Nat)(w:World):Prop:=
 ∃i2 lab2,fh w tb t next i2 lab2/\i2.f=tu i.f id at'/\i2.np=i.np+1/\i2.free=i.free.dropLast/\i2.late=i.late/\i2.G=i.G/\(∀k,k<t.cols.length->i2.cl k=if k<j then ex (i.cl k) at' (vals.getD k z3)else i.cl k)/\Ext W lab lab2/\Tn (fun b=>lab b≠0) W w/\i2.cv=i.cv/\i2.cb=i.cb/\i2.m<=i.m+1
section
variable {W W' w w':World}{tb next:Nat}{t:T}{i:In}{lab lab':Nat->Nat}{id:Int}{at' j:Nat}{vals:List T3}
theorem eE(h:Ext W lab lab'):∀b,b<W.heap.size->lab' b≠0->lab b≠0:=fun b a c=>by rw[<-h b a];exact c
theorem mo.BN(h:mo W tb t next i lab id at' vals j w):Tn (fun b=>lab b≠0) W w:=by
 obtain⟨g,a,k,l,m,n,o,p,q,r,c,d,e,f⟩:=h;exact c
theorem mo.ptr(h:mo W tb t next i lab id at' vals j w){g n c k:Nat}(hcv:i.cv=.slice (some ⟨g,0,none⟩) n c)(hk:k<t.cols.length):g<w.heap.size/\w.cell? ⟨g,k,none⟩=some (.pointer (some ⟨i.cb k,0,none⟩)):=by
 obtain⟨p,d,l,q,r,s,u,v,x,y,z,a,b,m⟩:=h;obtain⟨A,B,e,_,_,o,f⟩:=l.ptr hk;rw[a,hcv]at e;cases e;rw[b]at f;exact⟨o,f⟩
theorem mo.col(h:mo W tb t next i lab id at' vals j w)(hj:j<t.cols.length)(hv:j<vals.length)(hin:lx t.cols[j].kd vals[j]=true)(hs:vals[j].2.2.size<=maxLen)(hl:(i.cl j).length+1<=900)(hat:at'<=(i.cl j).length):(at'<(i.cl j).length->Calls prog 73 #[.pointer (some ⟨i.cb j,0,none⟩),.int .i64 (at':Int),.agg #[.int .i64 (vals[j].1),.int .i64 (vals[j].2.1),.string (vals[j].2.2)]] w fun e w'=>e=.returned (.bool true)/\mo W tb t next i lab id at' vals (j+1) w'/\Tn (fun b=>lab b≠0) W w')/\(at'=(i.cl j).length->Calls prog 73 #[.pointer (some ⟨i.cb j,0,none⟩),.int .i64 (at':Int),.agg #[.int .i64 (vals[j].1),.int .i64 (vals[j].2.1),.string (vals[j].2.2)]] w fun e w'=>e=.returned (.bool false)/\Below w.heap.size w w')/\(at'=(i.cl j).length->∀z,Below w.heap.size w z->Calls prog 105 #[.pointer (some ⟨i.cb j,0,none⟩),.agg #[.int .i64 (vals[j].1),.int .i64 (vals[j].2.1),.string (vals[j].2.2)]] z fun e w'=>e=.returned (.bool true)/\mo W tb t next i lab id at' vals (j+1) w'):=by
 obtain⟨d,l,E,U,V,X,Y,Z,N,O,P,f,m,F⟩:=h;rw[<-m];have G:d.cl j=i.cl j:=(by rw[N j hj,zq (ub j)]);have H:vals.getD j z3=vals[j]:=by rw[zu,z6 hv];rfl
 have c:∀(n w':World) (A:List T3) (B:Value),fh n tb t next d l->Tn (fun b=>lab b≠0) W n->A=ex (i.cl j) at' vals[j]->Col (d.cb j) t.cols[j].kd A B w'->Chg (fun b=>b=d.cb j∨(d.v j).ownBlock=some b) n w'->(∀q,B.ownBlock=some q->(d.v j).ownBlock=some q∨n.heap.size<=q)->mo W tb t next i lab id at' vals (j+1) w':=by
  intro n w' A B hT o I a p r;obtain⟨s,u,x,J⟩:=hT.setcol hj a p r;refine⟨_,s,u,U,V,X,Y,Z,fun k hk=>?_,O.trans o.size x,o.trans J (fun _ _ h=>h) (eE O),f,m,F⟩;show oi d.cl j A k=_;by_cases e:k=j
  ·subst e;rw[bM,I,zv (uf k),H]
  rw[bC _ _ e,N k hk];by_cases Q:k<j
  ·rw[zv Q,zv (by omega)]
  rw[zq Q,zq (by omega)]
 have a:=E.col j hj;rw[G]at a;refine⟨fun y=>?_,fun L=>?_,fun L z g=>?_⟩
 ·refine(qQ a (by omega) at' y vals[j] hs hin).mono ?_;rintro e w'⟨rfl,u,x⟩;have R:=c w w' _ _ E P (by unfold ex;rw[zv y]) u x (fun q hq=>.inl hq);have M:=R;obtain⟨_,_,_,_,_,_,_,_,_,_,f,_⟩:=M;exact⟨rfl,R,f⟩
 ·exact wP a at' vals[j] hs (.inl (by omega))
 refine(K7 (a.later g) (by omega) vals[j] hs hin).mono ?_;rintro e w'⟨rfl,B,u,x,J⟩;refine⟨rfl,c z w' _ _ (E.later g) (P.trans (Tn.of_below (S:=fun _=>False) g) (fun _ _ h=>h) (fun _ _ h=>h.elim)) (by unfold ex;rw[zq (by omega)]) u J x⟩
theorem tD{S:Nat->Prop}{vv:Value}(h:fh W tb t next i lab)(hid:kj id)(hf:i.f id=none)(hv:eb S W vv vals)(hS:∀b,S b->lab b=0)(hlen:vals.length=t.cols.length)(hok:gu t vals=true)(hs:∀x∈vals,x.2.2.size<=maxLen)(U:i.np<=800)(V:i.free.length<=800)(hfb:∀p∈i.free,p<=800)(hcl:∀k,k<t.cols.length->(i.cl k).length+1<=900/\spot i<=(i.cl k).length)(hm:i.m+1<=next)(hnx:next<=65536):Calls prog 70 #[.pointer (some ⟨tb,0,none⟩),.int .i64 id,vv] W fun e w'=>e=.returned (.tuple #[])/\mo W tb t next i lab id (spot i) vals t.cols.length w':=by
 obtain⟨p,b8,rfl,b9,c0⟩:=hv.slice;obtain⟨n,hn⟩:=ag t.cols.length;obtain⟨R,a3⟩:=ag (spot i);have X:=aa a3;have zl:=h.tlt;have a4:=h.place;have c5:=h.cells.2.2.2.2.2.1
 obtain⟨r,hr⟩:∃r,i.pv=.map r:=by
  rcases a4 with ⟨e,_⟩ | ⟨b,e,_⟩
  ·exact⟨_,e⟩
  exact⟨_,e⟩
 rw[hr]at c5;have E:=(fun w=>run_eql_map_nil (P:=prog) w 114 3 3 r underlying114);obtain⟨nb,Y⟩:=ag r.isNone
 try rw[Y]at E
 have f5:=h.fz 5;have J:=(fun x=>(show i.f x=none->True from fun _=>trivial));have HH:=aa (ab h (ab hv (ab hS hs)));have Z:=aa (ab hn (ab hlen (ab hok hf)));have HB:=aa (ab U (ab V (ab hfb (ab hcl (ab hm hnx)))));rw[hlen,hn]at b9;rw[hlen,hn,a3];unfold maxLen at c0;clear a3;clear h hv hS hs hlen hok hf U V hfb hcl hm J;go_enter func70,ntmps70
 go_upto_if 14 with fail
 go_cut []from 15 to 18 (fun w=>∃b m1 a,fh w tb t next { i with pv:=.map (some b),m:=m1 } a/\m1<=i.m/\Ext W lab a/\Tn (fun b=>lab b≠0) W w)
 case first =>
  cases nb with
  | true =>
   have c1:r=none:=Option.isNone_iff_eq_none.1 Y;subst c1;rcases a4 with ⟨z,d,a9⟩ | ⟨b,z,b0⟩
   ·obtain⟨a,F,k2,k3⟩:=HH.1.setmap d a9;have L:=World.setCell_alloc_past (w:=W) (.map #[] 0) tb 5 (.map (some W.heap.size)) zl;rw[L]at F k3;have HK:=aa (ab F (ab k2 k3));clear F k2 k3 a9 L;have e4:=@run_makeMap prog;go_wp2_with fail;go_meet;exact⟨_,0,a,HK.1,zh _,HK.2.1,HK.2.2⟩
   ·rw[hr]at z;cases z
  | false =>
   rcases a4 with ⟨z,_⟩ | ⟨b,z,b0⟩
   ·rw[hr]at z;cases z;cases Y
   ·clear b0;have HP:=aa z;clear z hr;go_wp2_with fail;go_meet;exact⟨b,i.m,lab,by rw[<-HP.out];exact HH.1,zm _,Ext.refl _ _,Tn.refl _ _⟩
 obtain⟨b,m1,a,F,k2,k3,k4⟩:=hcut;have K:=aa (ab F (ab k2 (ab k3 k4)));clear c5 E hr f5 Y zl;have zl:=F.tlt;have c5:=F.cells.2.2.2.2.2.1;have c6:=F.cells.2.2.2.2.2.2.1;have f6:=F.fz 6;have G:=F.place.len 3;have o:=F.free;simp only at c5 c6 G o;obtain⟨pf,cf,a5,c4,c7⟩:=o.isslice;rw[a5]at c6 o;unfold maxLen at c7;have U:=HB.1;have V:=HB.2.1;obtain⟨nf,J⟩:=ag i.free.length;rw[J]at c6 o c4 V;have M:=aa (ab a5 J);clear J;obtain⟨np,d⟩:=ag i.np;rw[d]at G U;have c8:=aa d;clear F k2 k3 k4 a5
 go_upto_if 31 with (at_len;refine sX rfl (.tmp 28) 114 rfl rfl G ?_)
 go_cut [6,7]from 23 to 47 (fun _ av w=>av=.int .i64 (R:Int)/\∃fv,fh w tb t next { i with pv:=.map (some b),m:=m1,fv:=fv,free:=i.free.dropLast } a/\Tn (fun b=>lab b≠0) W w)
 case first =>
  by_cases hz:nf=0
  ·have l:i.free=[]:=wk (by rw[M.2];exact hz);have A:R=np:=(by rw[<-X.out,<-c8.out];unfold spot;rw[l];rfl);have e5:¬ (1:Int)<=(nf:Int):=(by omega);have HZ:=aa (ab l A);clear l A hz o c5 c6 G d;go_wp2_with fail;go_meet;refine⟨by rw[HZ.2],i.fv,?_,K.2.2.2⟩
   have:=K.1
   rw[show i.free.dropLast=i.free by rw[HZ.1];rfl];exact this
  obtain⟨fr,p0,l⟩:∃fr p0,i.free=fr++[p0]:=by
   rcases List.eq_nil_or_concat i.free with h0|⟨fr,p0,h0⟩
   ·rw[<-M.2,h0]at hz;exact absurd rfl hz
   exact⟨fr,p0,by rw[h0];simp⟩
  obtain⟨q,hq⟩:=ag fr.length;have b1:nf=q+1:=(by rw[<-M.2,l,<-hq];simp);have A:R=p0:=(by rw[<-X.out];unfold spot;rw[l];simp);have e7:p0<=800:=HB.2.2.1 p0 (by rw[l];simp);obtain⟨g,e8,d0,_,_⟩:=o.slice (by omega);cases d0
  have d1:wc.cell? ⟨g,q,none⟩=some (.int .i64 (R:Int)):=by
   rw[A];exact o.cell (by rw[l,xm,ye (by omega),hq];simp)
  have e9:=(o.lt g rfl).2;have N:=K.1.setfree (g:=g) (n:=nf) (c:=cf) (fr:=fr) (p:=p0) (by rw[<-M.2];exact M.1) l (by rw[hq];exact b1.symm);rw[hq]at N;have HZ:=aa (ab N (ab l hq));clear N l hq hz o A G d;subst b1;have e6:((q+1:Nat):Int)-1=(q:Int):=(by omega);go_wp2_with fail;go_meet;refine⟨rfl,.slice (some ⟨g,0,none⟩) q cf,?_,K.2.2.2.trans HZ.1.2 (fun _ _ h=>h) (eE K.2.2.1)⟩
  have:=HZ.1.1
  rw[show i.free.dropLast=fr by rw[HZ.2.1];simp];exact this
 obtain⟨rfl,fv,q1,q2⟩:=hcut
 have d9:R<=800:=by
  rw[<-X.out];unfold spot;cases hg:i.free.getLast? with
  | none=>exact HB.1
  | some q=>exact HB.2.2.1 q (List.mem_of_getLast? hg)
 obtain⟨w3,b2,r1,r2⟩:=q1.setput rfl (p:=R) hid (by omega) Z.2.2.2 (by have:=HB.2.2.2.2.1;have:=K.2.1;show m1+1<=next;omega) (by have:=HB.2.2.2.2.2;omega);have a2:mo W tb t next i lab id R vals 0 w3:=⟨_,a,r1,rfl,rfl,rfl,rfl,rfl,fun k hk=>by rw[zq (yo k)],K.2.2.1,q2.trans r2 (fun _ _ h=>h) (eE K.2.2.1),rfl,rfl,by have:=K.2.1;show m1+1<=i.m+1;omega⟩;have d4:=r1.cells.2.2.2.2.1;have d5:=q1.cells.2.2.2.2.2.1;have dl:=q1.tlt;have f0:=r1.tlt;simp only at d4 d5;obtain⟨pc,cc,O,d2,d3⟩:=r1.cols.isslice;simp only at O;rw[Z.1]at O d2;rw[O]at d4;have HP:=aa (ab a2 O);unfold maxLen at d3;clear q1 q2 r1 r2 a2 O c5 c6 f6 G o d zl;go_wp2_with (at_mapUpdate;refine fA rfl (.tmp 51) (.tmp 52) (.tmp 53) 114 rfl rfl rfl rfl b2 ?_);go_loopg [59] (n+1) (fun gh jv w=>∃(j:Nat),jv=.int .i64 (j:Int)/\j<=n/\n+1<=j+gh/\mo W tb t next i lab id R vals j w)
 case atStart=>exact⟨0,rfl,zh _,by omega,HP.1⟩
 obtain⟨j,rfl,hj,hg,B⟩:=hrel;by_cases d6:j<n
 ·have H:j<t.cols.length:=(by rw[Z.1];exact d6);have a0:j<vals.length:=(by rw[Z.2.1];exact H);have a6:=Hn Z.2.2.1 H a0;have a7:=HH.2.2.2 _ (z8 a0);have s:=HB.2.2.2.1 j H;rw[X.out]at s;obtain⟨v,I,y⟩:=B.col H a0 a6 a7 s.1 s.2
  obtain⟨gc,a1,d7,_,_⟩:∃gc a1,Value.slice pc n cc=.slice (some ⟨gc,0,none⟩) n a1/\n<=a1/\a1<=maxLen:=by
   have b3:=B;obtain⟨i2,e3,h1,_,_,_,_,_,_,_,_,d8,_⟩:=b3;obtain⟨g',c',e,e1,e2,F,k2⟩:=h1.ptr H;rw[d8,HP.2,Z.1]at e;exact⟨g',c',e,by rw[<-Z.1];exact e1,e2⟩
  cases d7;obtain⟨gl,gp⟩:=B.ptr HP.2 H
  have Q:eb S wr (.slice p n b8) vals:=by
   have:=HH.2.1.tn B.BN (fun b hb hn=>hn (HH.2.2.1 b hb))
   rw[Z.2.1,Z.1]at this;exact this
  obtain⟨bv,ov,rfl,bl,v0,v1,v2⟩:=Q.val a0;obtain⟨u,hu⟩:=ag (vals[j]);rw[hu]at v0 v1 v2 v I y;obtain⟨uk,un,us⟩:=u;simp only at v0 v1 v2 v I y;have f1:(j:Int)<(n:Int):=(by omega);obtain⟨cb,a8⟩:=ag (i.cb j);rw[a8]at gp v I y;have HV:Hid (∀w',Below wr.heap.size wr w'->bv<w'.heap.size/\w'.cell? ⟨bv,ov+j*3,none⟩=some (.int .i64 uk)/\w'.cell? ⟨bv,ov+j*3+1,none⟩=some (.int .i64 un)/\w'.cell? ⟨bv,ov+j*3+2,none⟩=some (.string us)):=aa (fun w' hb=>⟨z9 bl hb.size,(za (w:=wr) (hb.block bv bl)).trans v0,(za (w:=wr) (hb.block bv bl)).trans v1,(za (w:=wr) (hb.block bv bl)).trans v2⟩);by_cases b4:R<(i.cl j).length
  ·have kS:=v b4;clear v I y B Q a6 a7 s hu a8;go_wp2_with (go_at_call 73;refine kS.mono ?_;rintro e w4⟨rfl,b5,_⟩;have H4:=aa b5;clear b5 kS);go_roundg (n-j)
   case measure=>omega
   exact⟨j+1,by go_num,by omega,by omega,H4.out⟩
  have E:R=(i.cl j).length:=(by have:=s.2;omega);have kN:=I E;have kA:=y E;clear v I y B Q a6 a7 s hu a8 E b4
  go_wp2_with (first|(go_at_call 73;refine kN.mono ?_;rintro e w4⟨rfl,s⟩;have b6:=kA w4 s;obtain⟨y3,y0,y1,y2⟩:=HV.out w4 s;clear kA kN s)|(go_at_call 105;refine b6.mono ?_;rintro e w5⟨rfl,b7⟩;have H5:=aa b7;clear b7 b6))
  go_roundg (n-j)
  case measure=>omega
  exact⟨j+1,by go_num,by omega,by omega,H5.out⟩
 obtain rfl:j=n:=(by omega);have HF:=aa B;clear B;go_wp2_with fail
 go_end0
 exact⟨rfl,HF.out⟩
end
def Tb(W:World)(tb:Nat)(t:T)(next:Nat)(A:List R1)(lab:Nat->Nat):Prop:=∃i,fh W tb t next i lab/\Inv t.cols.length next i A
section
variable {W W':World}{tb next:Nat}{t:T}{A:List R1}{lab:Nat->Nat}
theorem Tb.tn{S:Nat->Prop}(h:Tb W tb t next A lab)(hk:Tn S W W')(hs:∀b,S b->lab b=0):Tb W' tb t next A lab:=by
 obtain⟨i,a,c⟩:=h;exact⟨i,a.tn hk hs,c⟩
theorem Tb.later(h:Tb W tb t next A lab)(hb:Below W.heap.size W W'):Tb W' tb t next A lab:=by
 obtain⟨i,a,b⟩:=h;exact⟨i,a.later hb,b⟩
theorem Tb.lt(h:Tb W tb t next A lab):∀b,lab b≠0->b<W.heap.size:=by
 obtain⟨i,a,c⟩:=h;exact a.lt
end
section
variable {W W':World}{tb next:Nat}{t:T}{i:In}{A:List R1}{lab:Nat->Nat}
theorem fh.setnext(h:fh W tb t next i lab):fh (W.setCell ⟨tb,9,none⟩ (.int .i64 ((next:Int)+1))) tb t (next+1) i lab/\Tn (fun b=>lab b≠0) W (W.setCell ⟨tb,9,none⟩ (.int .i64 ((next:Int)+1))):=by
 have c:=Tn.own h 9 (.int .i64 ((next:Int)+1));have a:=h.towl.tn c (fun b d=>.inr d);exact⟨⟨⟨a.form,a.cols,a.col,a.place,Nat.le_succ_of_le a.pm,a.free,a.gone,a.late,a.l1,a.l2,a.l3,a.l4,a.l6,a.l7,a.lt⟩,y9 _ tb 9 _ _ _ h.box⟩,c.mono (fun b _ d=>by show lab b≠0;rw[show lab b=1 from d];decide)⟩
theorem Inv.tz{n:Nat}(h:Inv n next i A):∀p∈i.free,p<=A.length+i.free.length:=fun p a=>Nat.le_of_lt (h.fre p a).1
theorem mo.inv{n:Nat}{W0 w:World}{nx:Nat}{vals:List T3}(hn:t.cols.length=n)(h:Inv n next i A)(hv:vals.length=n)(hnx:next+1<=65536)(hP:mo W0 tb t nx i lab (next:Int) (spot i) vals n w):∃o l,fh w tb t nx o l/\Inv n (next+1) o (A++[((next:Int),vals)])/\Ext W0 lab l/\Tn (fun b=>lab b≠0) W0 w:=by
 obtain⟨o,l,s,B,L,M,N,O,u,Q,R,S,U⟩:=hP;rw[hn]at u;refine⟨o,l,s,?_,Q,R⟩;have v:∀k,k<n->some (vals.getD k z3)=vals[k]?:=(fun k c=>by rw[zu,z6 (by omega)];rfl);rcases List.eq_nil_or_concat i.free with g|⟨E,p,g⟩
 ·have F:spot i=A.length:=(by unfold spot;rw[g,<-h.np];rfl);rw[F]at B u;have d:=h.lens;have f:o.free=[]:=(by rw[M,g];rfl);rw[g]at d;simp only[vp,Nat.add_zero]at d
  have j:∀k,k<n->o.cl k=i.cl k++[vals.getD k z3]:=fun k c=>by
   rw[u k c,zv c];unfold ex;rw[zq (by rw[d k c];omega)]
  refine h.ins (p:=A.length) hv hnx L B N O (fun x V=>?_) (fun q=>by rw[f,g];simp) (by rw[f];exact List.nodup_nil) (fun q=>by rw[f,g];simp;omega) (by rw[f];have:=h.few;simp;omega) (fun k c=>?_) (fun k c=>?_) (fun k c q m=>?_)
  ·obtain⟨a,_,_,P,_⟩:=h.Ab V;rw[g]at P;simp at P
  ·rw[j k c,f,y8,d k c];rfl
  ·rw[j k c,ye (by rw[d k c];exact zm _),d k c,<-v k c]
   simp
  rw[j k c];rcases v6 q A.length with s|s
  ·rw[wf (by rw[d k c];exact s)]
  rw[u6 (by rw[y8,d k c];simp;omega),u6 (by rw[d k c];exact s)]
 have g:i.free=E++[p]:=(by rw[g];simp);have F:spot i=p:=(by unfold spot;rw[g];simp);rw[F]at B u;have f:o.free=E:=(by rw[M,g];simp);have G:p∈i.free:=(by rw[g];simp);obtain⟨y,H,W⟩:=h.fre p G;have r:=h.fnd;rw[g,List.nodup_append]at r;have I:p ∉ E:=(fun X=>r.2.2 p X p (by simp) rfl);have z:i.free.length=E.length+1:=by rw[g];simp
 have j:∀k,k<n->o.cl k=(i.cl k).set p (vals.getD k z3):=fun k c=>by
  rw[u k c,zv c];unfold ex;rw[zv (by rw[h.lens k c];exact y)]
 refine h.ins (p:=p) hv hnx L B N O H (fun q=>?_) (by rw[f];exact r.1) (fun q=>by rw[f,z];constructor <;> omega) (by rw[f];have:=h.few;omega) (fun k c=>?_) (fun k c=>?_) (fun k c q m=>?_)
 ·rw[f,g];constructor
  ·intro m;exact⟨by simp[m],fun e=>I (e▸m)⟩
  rintro⟨m,J⟩;rcases List.mem_append.1 m with m|m
  ·exact m
  exact absurd (List.mem_singleton.1 m) J
 ·rw[j k c,u7,h.lens k c,f,z];omega
 ·rw[j k c,List.getElem?_set_self (by rw[h.lens k c];exact y),v k c]
 rw[j k c,List.getElem?_set_ne (fun e=>m e.symm)]
def dj(t:T)(vals:List T3):Int:=if vals.length≠t.cols.length then 1 else if gu t vals then 0 else 4
theorem zR{vals:List T3}(h:next≠65536):Bc t next vals=dj t vals:=zq h
theorem pI{S:Nat->Prop}{vv:Value}{vals:List T3}(h:Tb W tb t next A lab)(hv:eb S W vv vals)(hn:next<65536)(hc:t.cols.length<=1000)(hs:∀x∈vals,x.2.2.size<=maxLen)(hl:vals.length<=1000000)(hno:dj t vals≠0):Calls prog 37 #[.pointer (some ⟨tb,0,none⟩),vv] W fun e w'=>e=.returned (.tuple #[.int .i64 0,.int .i64 (dj t vals)])/\Below W.heap.size W w':=by
 obtain⟨i,b,c⟩:=h;have a:=tC b hv (by omega) hc hs hl;rw[zR (by omega)]at a;generalize dj t vals=E at a hno ⊢;have d:(E != 0)=true:=(by simp[hno]);clear b c hv hs hl;go_enter func37,ntmps37;go_wp2_with (go_at_call 69;refine a.mono ?_;rintro e g⟨rfl,f⟩);go_ret2;exact⟨rfl,f⟩
theorem mU{S:Nat->Prop}{vv:Value}{vals:List T3}(h:Tb W tb t next A lab)(hv:eb S W vv vals)(hS:∀b,S b->lab b=0)(B:next<=590)(hc:t.cols.length<=1000)(hs:∀x∈vals,x.2.2.size<=maxLen)(hl:vals.length<=1000000)(hyes:dj t vals=0):Calls prog 37 #[.pointer (some ⟨tb,0,none⟩),vv] W fun e w'=>e=.returned (.tuple #[.int .i64 (next:Int),.int .i64 0])/\∃lab',Tb w' tb t (next+1) (A++[((next:Int),vals)]) lab'/\Ext W lab lab'/\Tn (fun b=>lab b≠0) W w':=by
 obtain⟨i,r,d⟩:=h;have s:=tC r hv (by omega) hc hs hl;rw[zR (by omega),hyes]at s
 have c:vals.length=t.cols.length:=by
  unfold dj at hyes;by_cases e:vals.length=t.cols.length
  ·exact e
  rw[zv e]at hyes;cases hyes
 have l:gu t vals=true:=by
  unfold dj at hyes;rw[zq (fun h=>h c)]at hyes;by_cases e:gu t vals=true
  ·exact e
  rw[zq e]at hyes;cases hyes
 have G:Hid (∀w,Below W.heap.size W w->w.cell? ⟨tb,9,none⟩=some (.int .i64 (next:Int))/\tb<w.heap.size/\w.frozen? ⟨tb,9,none⟩=false/\Calls prog 70 #[.pointer (some ⟨tb,0,none⟩),.int .i64 (next:Int),vv] (w.setCell ⟨tb,9,none⟩ (.int .i64 ((next:Int)+1))) fun e w'=>e=.returned (.tuple #[])/\∃lab',Tb w' tb t (next+1) (A++[((next:Int),vals)]) lab'/\Ext W lab lab'/\Tn (fun b=>lab b≠0) W w'):=aa (fun w o=>by
  have m:=r.later o;obtain⟨E,u⟩:=m.setnext;have F:=d.few;have v:i.f (next:Int)=none:=d.no _ (fun a H e=>by have:=(d.rng a H).2;omega);have y:=(hv.later o).tn u (fun b j B=>B (hS b j))
  have z:∀k,k<t.cols.length->(i.cl k).length+1<=900/\spot i<=(i.cl k).length:=fun k I=>by
   rw[d.lens k I];refine⟨by omega,?_⟩;unfold spot;cases J:i.free.getLast? with
   | none=>show i.np<=_;rw[d.np];omega
   | some q=>exact d.tz q (List.mem_of_getLast? J)
  refine⟨m.cells.2.2.2.2.2.2.2.2.2,m.tlt,m.fz 9,(tD E (id:=(next:Int)) (by constructor <;> omega) v y hS c l hs (by rw[d.np];omega) (by omega) (fun p L=>by have:=d.tz p L;omega) z (by have:=E.pm;have:=m.pm;omega) (by omega)).mono ?_⟩;rintro e w'⟨rfl,M⟩;obtain⟨N,n,O,P,Q,R⟩:=mo.inv rfl d c (by omega) M;exact⟨rfl,n,⟨N,O,P⟩,fun b j=>Q b (z9 j (zw o.size u.size)),((Tn.of_below (S:=fun _=>False) o).trans u (fun _ _ h=>h.elim) (fun _ _ h=>h)).trans R (fun _ _ h=>h) (fun _ _ h=>h)⟩)
 have U:IntKind.i64.wrap ((next:Int)+1)=(next:Int)+1:=(by rw[IntKind.wrap_i64];omega);clear r d hv hS hs hl hyes c l;go_enter func37,ntmps37
 go_wp2_with (first|(go_at_call 69;refine s.mono ?_;rintro e V⟨rfl,j⟩;obtain⟨c9,Y,f9,g⟩:=G.out V j;clear s j)|(go_at_call 70;refine g.mono ?_;rintro e Z⟨rfl,hT⟩;have X:=aa hT;clear hT g))
 go_ret2;exact⟨rfl,X.out⟩
end
theorem Kb(kind:Int):lx kind z3=true:=by simp[lx,jf]
def uu(W:World)(tb:Nat)(t:T)(next:Nat)(i:In)(lab:Nat->Nat)(p j:Nat)(w:World):Prop:=
 ∃cl lab2,fh w tb t next { i with cl:=cl } lab2/\(∀k,k<t.cols.length->cl k=if k<j then(i.cl k).set p z3 else i.cl k)/\Ext W lab lab2/\Tn (fun b=>lab b≠0) W w
section
variable {W W' w w':World}{tb next:Nat}{t:T}{i:In}{lab lab':Nat->Nat}{p j:Nat}
theorem E6{α:Type}(f:Nat->α)(k:Nat):oi f k (f k)=f:=funext fun j=>by unfold oi;split <;> simp_all
theorem uu.col(h:uu W tb t next i lab p j w)(hj:j<t.cols.length)(hl:(i.cl j).length<=900)(hp:p<(i.cl j).length):Calls prog 73 #[.pointer (some ⟨i.cb j,0,none⟩),.int .i64 (p:Int),.agg #[.int .i64 0,.int .i64 0,.string (⟨#[]⟩)]] w fun e w'=>e=.returned (.bool true)/\uu W tb t next i lab p (j+1) w':=by
 obtain⟨cl,d,f,g,l,m⟩:=h;have c:cl j=i.cl j:=(by rw[g j hj,zq (ub j)]);have a:=f.col j hj;simp only at a;rw[c]at a;refine(qQ a hl p hp z3 (by decide) (Kb _)).mono ?_;rintro e w'⟨rfl,r,s⟩;obtain⟨b,n,u,v⟩:=f.setcol (l':=(i.cl j).set p z3) hj r s (fun q x=>.inl x);simp only[E6]at n;refine⟨rfl,_,b,n,fun k y=>?_,l.trans m.size u,m.trans v (fun _ _ h=>h) (eE l)⟩;show oi cl j _ k=_;by_cases e:k=j
 ·subst e;rw[bM,zv (uf k)]
 rw[bC _ _ e,g k y];by_cases o:k<j
 ·rw[zv o,zv (by omega)]
 rw[zq o,zq (by omega)]
theorem uu.ptr(h:uu W tb t next i lab p j w){g n c k:Nat}(hcv:i.cv=.slice (some ⟨g,0,none⟩) n c)(hk:k<t.cols.length):g<w.heap.size/\w.cell? ⟨g,k,none⟩=some (.pointer (some ⟨i.cb k,0,none⟩)):=by
 obtain⟨cl,a,d,l,m,o⟩:=h;obtain⟨q,r,e,_,_,f,b⟩:=d.ptr hk;simp only at e b;rw[hcv]at e;cases e;exact⟨f,b⟩
theorem fh.setdel(h:fh W tb t next i lab){x:Int}{q:Nat}(hx:kj x)(hf:i.f x=some q)(ty:TypeId):∃w',(Builtin.delete_ #[114,3] ty #[i.pv,.int .i64 x]).run prog W=.ok (.tuple #[]) w'/\fh w' tb t next { i with f:=qg i.f x,np:=i.np-1 } lab/\Tn (fun b=>lab b≠0) W w':=by
 obtain⟨b,l,o⟩:∃b,i.pv=.map (some b)/\Mi W b i.f i.np i.m:=by
  rcases h.place with ⟨e,_,w⟩ | ⟨y,e,z⟩
  ·rw[w x]at hf;cases hf
  exact⟨y,e,z⟩
 obtain⟨A,B,p⟩:=o.isMap;obtain⟨w',r,u,E⟩:=o.del hx hf ty;have s:lab b=2:=h.l2 b (by rw[l];rfl);have a:Tn (fun c=>c=b) W w':=Tn.bq ((Chg.refl (fun c=>c=b) W).grown E (fun k F _=>by cases F;rfl)) (fun c _ g=>.inr ⟨A,B,by rw[g];exact p⟩);have n:∀c q,lab c=q->q≠2->c≠b:=(fun c q e G H=>G (by rw[<-e,H];exact s));have d:∀c q,lab c=q->q≠0->q≠2->w'.heap[c]?=W.heap[c]?:=fun c q e I J=>a.chg.block c (h.lt c (by rw[e];exact I)) (n c q e J)
 refine⟨w',by rw[l];exact r,⟨⟨h.form.tn a,h.cols.tn a rfl,fun j v=>(h.col j v).tn a (n _ _ (h.l6 j v) (by omega)) (fun c g=>n _ _ (h.l7 j v c g) (by omega)),.inr ⟨b,l,u⟩,h.pm,h.free.of (fun c g=>d c 3 (h.l3 c g) (by decide) (by decide)),h.gone.tn a,
  h.late.of (fun c g=>d c 4 (h.l4 c g) (by decide) (by decide)),h.l1,h.l2,h.l3,h.l4,h.l6,h.l7,fun c g=>z9 (h.lt c g) a.size⟩,(d tb 1 h.l1 (by decide) (by decide)).trans h.box⟩,a.mono (fun c _ g=>by show lab c≠0;rw[show c=b from g,s];decide)⟩
theorem fh.addfree(h:fh W tb t next i lab)(p:Nat)(hl:i.free.length<=10000):∃g f l,(Builtin.append_ #[45,45] 45 #[i.fv,.slice (some ⟨W.heap.size,0,none⟩) 1 1]).run prog (W.alloc (.cells #[.int .i64 (p:Int)] 3))=.ok (.slice (some ⟨g,0,none⟩) (i.free.length+1) f) l/\tb<l.heap.size/\l.frozen? ⟨tb,6,none⟩=false/\(∃u,l.cell? ⟨tb,6,none⟩=some u)/\∃lab',fh (l.setCell ⟨tb,6,none⟩ (.slice (some ⟨g,0,none⟩) (i.free.length+1) f)) tb t next { i with fv:=.slice (some ⟨g,0,none⟩) (i.free.length+1) f,free:=i.free++[p] } lab'/\Ext W lab lab'/\Tn (fun b=>lab b≠0) W (l.setCell ⟨tb,6,none⟩ (.slice (some ⟨g,0,none⟩) (i.free.length+1) f)):=by
 have E:Ro W 0 i.fv (i.free.map fun q:Nat=>(q:Int)):=by
  have:=h.free
  rw[show i.free.map ivn=(i.free.map fun q:Nat=>(q:Int)).map iv by simp]at this;have e:(i.free.map fun q:Nat=>(q:Int)).length=i.free.length:=(by simp);show ac W 0 3 1 i.fv (i.free.map fun q:Nat=>(q:Int)).length _;rw[e];exact this
 obtain⟨g,f,l,z,O,P,own⟩:=iY 45 underlying45 W 0 (n:=i.free.length) (by simp) E (by omega) (zh _) (p:Int)
 have F:∀b,i.fv.ownBlock=some b->Ty W b:=fun b a=>by
  obtain⟨_,G,r⟩:=h.free.block b a;exact⟨G,3,r,rfl⟩
 have s:Chg (fun b=>i.fv.ownBlock=some b) W l:=(Chg.refl _ W).grown P (fun k Q _=>Q);have o:Tn (fun b=>i.fv.ownBlock=some b) W l:=Tn.bq s (fun b _ a=>.inl (F b a));have x:∀c q,lab c=q->q≠3->¬ i.fv.ownBlock=some c:=(fun c q e H I=>H (by rw[<-e];exact h.l3 c I));have m:∀c q,lab c=q->q≠0->q≠3->l.heap[c]?=W.heap[c]?:=fun c q e R r=>s.block c (h.lt c (by rw[e];exact R)) (x c q e r)
 have v:Ext W lab (ij lab (some g) 3):=gC (fun b a=>by
  cases a;rcases own with r|r
  ·exact .inl (h.l3 g r)
  exact .inr r)
 have J:=jE h.lt v;have e:∀b q,lab b=q->q≠0->ij lab (some g) 3 b=q:=fun b q r H=>by rw[J b (by rw[r];exact H),r]
 have A:ac l 0 3 1 (.slice (some ⟨g,0,none⟩) (i.free.length+1) f) (i.free.length+1) ((i.free++[p]).map ivn):=by
  have I:(i.free++[p]).map ivn=((i.free.map fun q:Nat=>(q:Int))++[(p:Int)]).map iv:=(by simp);rw[I];have L:((i.free.map fun q:Nat=>(q:Int))++[(p:Int)]).length=i.free.length+1:=by simp
  have:=O
  unfold Ro at this;rw[L]at this;exact this
 have d:=(m tb 1 h.l1 (by decide) (by decide)).trans h.box
 have M:wl l tb t next { i with fv:=.slice (some ⟨g,0,none⟩) (i.free.length+1) f,free:=i.free++[p] } (ij lab (some g) 3):=by
  refine⟨h.form.tn o,h.cols.tn o rfl,fun j y=>(h.col j y).tn o (x _ _ (h.l6 j y) (by omega)) (fun c B=>x _ _ (h.l7 j y c B) (by omega)),h.place.of (fun c B=>m c 2 (h.l2 c B) (by decide) (by decide)),h.pm,?_,h.gone.tn o,h.late.of (fun c B=>m c 4 (h.l4 c B) (by decide) (by decide)),
   e _ _ h.l1 (by decide),fun b a=>e _ _ (h.l2 b a) (by decide),fun b a=>?_,fun b a=>e _ _ (h.l4 b a) (by decide),fun j y=>e _ _ (h.l6 j y) (by omega),fun j y b a=>e _ _ (h.l7 j y b a) (by omega),jF h.lt o.size (fun b a=>by cases a;exact(A.lt g rfl).2)⟩
  ·have L:(i.free++[p]).length=i.free.length+1:=(by simp);show ac l 0 3 1 _ (i.free++[p]).length _;rw[L];exact A
  cases a;exact gD g rfl
 have N:ij lab (some g) 3 tb=1:=e _ _ h.l1 (by decide);have w:Tn (fun b=>b=tb) l (l.setCell ⟨tb,6,none⟩ (.slice (some ⟨g,0,none⟩) (i.free.length+1) f)):=Tn.bq ((Chg.refl (fun b=>b=tb) l).setCell (p:=⟨tb,6,none⟩) (fun _=>rfl) _) (fun b _ a=>.inl (by rw[a];exact⟨_,116,d,rfl⟩));have S:=M.tn w (fun b a=>.inr (by rw[a];exact N));refine⟨g,f,l,z,aC d,zo l tb 6 _ _ d,⟨_,aA d 6⟩,_,⟨S,y9 _ tb 6 _ _ _ d⟩,v,o.trans w (fun b _ a=>by show lab b≠0;rw[h.l3 b a];decide) (fun b _ a=>by show lab b≠0;rw[show b=tb from a,h.l1];decide)⟩
theorem fh.addlate(h:fh W tb t next i lab)(x:Int)(hl:i.late.length<=10000):∃g f l,(Builtin.append_ #[45,45] 45 #[i.lv,.slice (some ⟨W.heap.size,0,none⟩) 1 1]).run prog (W.alloc (.cells #[.int .i64 x] 3))=.ok (.slice (some ⟨g,0,none⟩) (i.late.length+1) f) l/\tb<l.heap.size/\l.frozen? ⟨tb,8,none⟩=false/\(∃u,l.cell? ⟨tb,8,none⟩=some u)/\∃lab',fh (l.setCell ⟨tb,8,none⟩ (.slice (some ⟨g,0,none⟩) (i.late.length+1) f)) tb t next { i with lv:=.slice (some ⟨g,0,none⟩) (i.late.length+1) f,late:=i.late++[x] } lab'/\Ext W lab lab'/\Tn (fun b=>lab b≠0) W (l.setCell ⟨tb,8,none⟩ (.slice (some ⟨g,0,none⟩) (i.late.length+1) f)):=by
 obtain⟨g,f,l,A,N,O,own⟩:=iY 45 underlying45 W 0 (n:=i.late.length) rfl h.late (by omega) (zh _) x
 have F:∀b,i.lv.ownBlock=some b->Ty W b:=fun b a=>by
  obtain⟨_,G,r⟩:=h.late.block b a;exact⟨G,3,r,rfl⟩
 have s:Chg (fun b=>i.lv.ownBlock=some b) W l:=(Chg.refl _ W).grown O (fun k P _=>P);have o:Tn (fun b=>i.lv.ownBlock=some b) W l:=Tn.bq s (fun b _ a=>.inl (F b a));have y:∀c q,lab c=q->q≠4->¬ i.lv.ownBlock=some c:=(fun c q e H Q=>H (by rw[<-e];exact h.l4 c Q));have m:∀c q,lab c=q->q≠0->q≠4->l.heap[c]?=W.heap[c]?:=fun c q e R r=>s.block c (h.lt c (by rw[e];exact R)) (y c q e r)
 have v:Ext W lab (ij lab (some g) 4):=gC (fun b a=>by
  cases a;rcases own with r|r
  ·exact .inl (h.l4 g r)
  exact .inr r)
 have I:=jE h.lt v;have e:∀b q,lab b=q->q≠0->ij lab (some g) 4 b=q:=(fun b q r H=>by rw[I b (by rw[r];exact H),r]);have M:(i.late++[x]).length=i.late.length+1:=by simp
 have B:ac l 0 3 1 (.slice (some ⟨g,0,none⟩) (i.late.length+1) f) (i.late.length+1) ((i.late++[x]).map iv):=by
  have:=N
  unfold Ro at this;rw[M]at this;exact this
 have d:=(m tb 1 h.l1 (by decide) (by decide)).trans h.box
 have J:wl l tb t next { i with lv:=.slice (some ⟨g,0,none⟩) (i.late.length+1) f,late:=i.late++[x] } (ij lab (some g) 4):=by
  refine⟨h.form.tn o,h.cols.tn o rfl,fun j z=>(h.col j z).tn o (y _ _ (h.l6 j z) (by omega)) (fun c E=>y _ _ (h.l7 j z c E) (by omega)),h.place.of (fun c E=>m c 2 (h.l2 c E) (by decide) (by decide)),h.pm,h.free.of (fun c E=>m c 3 (h.l3 c E) (by decide) (by decide)),h.gone.tn o,?_,
   e _ _ h.l1 (by decide),fun b a=>e _ _ (h.l2 b a) (by decide),fun b a=>e _ _ (h.l3 b a) (by decide),fun b a=>?_,fun j z=>e _ _ (h.l6 j z) (by omega),fun j z b a=>e _ _ (h.l7 j z b a) (by omega),jF h.lt o.size (fun b a=>by cases a;exact(B.lt g rfl).2)⟩
  ·show ac l 0 3 1 _ (i.late++[x]).length _;rw[M];exact B
  cases a;exact gD g rfl
 have L:ij lab (some g) 4 tb=1:=e _ _ h.l1 (by decide);have w:Tn (fun b=>b=tb) l (l.setCell ⟨tb,8,none⟩ (.slice (some ⟨g,0,none⟩) (i.late.length+1) f)):=Tn.bq ((Chg.refl (fun b=>b=tb) l).setCell (p:=⟨tb,8,none⟩) (fun _=>rfl) _) (fun b _ a=>.inl (by rw[a];exact⟨_,116,d,rfl⟩));have S:=J.tn w (fun b a=>.inr (by rw[a];exact L));refine⟨g,f,l,A,aC d,zo l tb 8 _ _ d,⟨_,aA d 8⟩,_,⟨S,y9 _ tb 8 _ _ _ d⟩,v,o.trans w (fun b _ a=>by show lab b≠0;rw[h.l4 b a];decide) (fun b _ a=>by show lab b≠0;rw[show b=tb from a,h.l1];decide)⟩
theorem fh.setgone(h:fh W tb t next i lab){p:Option Addr}{n c:Nat}{P:Int->Bool}(hv:Vm W (.slice p n c) P):fh ((W.setCell ⟨tb,7,none⟩ (.slice p n c)).setCell ⟨tb,8,none⟩ (.slice none 0 0)) tb t next { i with gv:=.slice p n c,G:=P,lv:=.slice none 0 0,late:=[] } lab/\Tn (fun b=>lab b≠0) W ((W.setCell ⟨tb,7,none⟩ (.slice p n c)).setCell ⟨tb,8,none⟩ (.slice none 0 0)):=by
 have g:=Tn.own h 7 (.slice p n c);have a:=h.towl.tn g (fun b e=>.inr e);have j:fh (W.setCell ⟨tb,7,none⟩ (.slice p n c)) tb t next { i with gv:=.slice p n c,G:=P } lab:=⟨⟨a.form,a.cols,a.col,a.place,a.pm,a.free,hv.tn g,a.late,a.l1,a.l2,a.l3,a.l4,a.l6,a.l7,a.lt⟩,y9 _ tb 7 _ _ _ h.box⟩;have f:=Tn.own j 8 (.slice none 0 0);have d:=j.towl.tn f (fun b e=>.inr e);refine⟨⟨⟨d.form,d.cols,d.col,d.place,d.pm,d.free,d.gone,ac.nil,d.l1,d.l2,d.l3,fun b e=>(by cases e),d.l6,d.l7,d.lt⟩,y9 _ tb 8 _ _ _ j.box⟩,g.trans f (fun b _ e=>by show lab b≠0;rw[show lab b=1 from e];decide) (fun b _ e=>by show lab b≠0;rw[show lab b=1 from e];decide)⟩
end
