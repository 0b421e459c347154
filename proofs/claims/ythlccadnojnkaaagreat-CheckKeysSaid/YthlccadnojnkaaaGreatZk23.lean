import Derived.Test.YthlccadnojnkaaaGreatZk21
import Derived.Test.YthlccadnojnkaaaGreatZk16
import Derived.Test.YthlccadnojnkaaaGreatZk22
set_option maxHeartbeats 8000000
set_option maxRecDepth 100000
namespace Go.Proofs.YthlccadnojnkaaaGreat
open Go Go.RowKit Go.Shelf Go.Proofs Co Co.S
attribute [local go_sem] Oper.semAt_some
attribute [local go_sem] fV fW eD bT
structure CpI (n:Nat) (A:List R1) (G0:Int->Bool) (k:Nat) (i:In):Prop where
 free:i.free=[]
 np:i.np=k
 late:i.late=[]
 G:i.G=G0
 m:i.m<=k
 lens:∀ c,c<n->(i.cl c).length=k
 cl:∀ c,c<n->∀ j (_:j<k) (h':j<A.length),(i.cl c)[j]?=(A[j].2)[c]?
 f:∀ x p,i.f x=some p↔∃ h:p<A.length,p<k/\A[p].1=x
section
variable {W w:World} {tb next n k:Nat} {t:T} {i:In} {A:List R1} {lab:Nat->Nat} {G0:Int->Bool}
theorem rA {A:List R1} (h:A.Pairwise (fun a b=>a.1<b.1)) {p q:Nat} (hp:p<A.length) (hq:q<A.length) (e:A[p].1=A[q].1):p=q:=by
 rcases Nat.lt_trichotomy p q with h1|h1|h1
 ·have:=List.pairwise_iff_getElem.1 h p q hp hq h1;omega
 ·exact h1
 have:=List.pairwise_iff_getElem.1 h q p hq hp h1;omega
theorem CpI.spot (h:CpI n A G0 k i):spot i=k:=by unfold YthlccadnojnkaaaGreat.spot;rw[h.free,h.np];rfl
theorem CpI.step (h:CpI n A G0 k i) (hn:t.cols.length=n) (hs:A.Pairwise (fun a b=>a.1<b.1)) (hk:k<A.length) (hv:A[k].2.length=n) (hP:PutI W tb t next i lab A[k].1 k A[k].2 n w) :
  ∃ i2 lab2,TbM w tb t next i2 lab2/\CpI n A G0 (k+1) i2/\Ext W lab lab2/\Tn (fun b=>lab b≠0) W w:=by
 obtain⟨i2,lab2,h1,h2,h3,h4,h5,h6,h7,h8,h9,h10,h11,h12⟩:=hP;rw[hn] at h7
 have hcl:∀ c,c<n->i2.cl c=i.cl c++[A[k].2.getD c z3]:=fun c hc=>by
  rw[h7 c hc,if_pos hc];unfold putL;rw[if_neg (by rw[h.lens c hc];omega)]
 refine⟨i2,lab2,h1,⟨by rw[h4,h.free];rfl,by rw[h3,h.np],by rw[h5,h.late],by rw[h6,h.G],by have:=h.m;omega,fun c hc=>by rw[hcl c hc,List.length_append,h.lens c hc];rfl,fun c hc j hj hj'=>?_,fun x p=>?_⟩,h8,h9⟩
 ·rw[hcl c hc];by_cases e:j=k
  ·subst e;rw[List.getElem?_append_right (by rw[h.lens c hc];exact Nat.le_refl _),h.lens c hc,Nat.sub_self,List.getD_eq_getElem?_getD,List.getElem?_eq_getElem (l:=A[j].2) (by rw[hv];exact hc)];rfl
  rw[List.getElem?_append_left (by rw[h.lens c hc];omega)];exact h.cl c hc j (by omega) hj'
 rw[h2];unfold upF;by_cases e:x=A[k].1
 ·rw[if_pos e];constructor
  ·intro hp;cases hp;exact⟨hk,Nat.lt_succ_self k,e.symm⟩
  rintro ⟨h1,h2,h3⟩;rw[rA hs h1 hk (h3.trans e)]
 rw[if_neg e,h.f x p];constructor
 ·rintro ⟨h1,h2,h3⟩;exact⟨h1,by omega,h3⟩
 rintro ⟨h1,h2,h3⟩
 exact⟨h1,by
  rcases Nat.lt_or_ge p k with h4|h4
  ·exact h4
  ·have:p=k:=(by omega);subst this;exact absurd h3.symm e,h3⟩
theorem CpI.inv {iT:In} (hT:Inv n next iT A) (hlen:∀ a∈A,a.2.length=n) (h:CpI n A (goneP iT) A.length i):Inv n next i A:=by
 refine⟨h.np,fun k hk=>by rw[h.lens k hk,h.free];rfl,hT.srt,hT.rng,fun a ha=>?_,fun x hx=>?_,fun x y p hx hy=>?_,fun p hp=>?_,by rw[h.free];exact List.nodup_nil,fun p hp=>?_,fun x=>?_,by rw[h.free];have:=hT.few;simp;omega,by rw[h.late];exact Nat.zero_le _,hT.lim⟩
 ·obtain⟨j,hj,rfl⟩:=List.getElem_of_mem ha;exact⟨j,(h.f _ _).2 ⟨hj,hj,rfl⟩,by rw[h.free];exact hj,mR (hlen _ ha) (fun c hc=>h.cl c hc j hj hj)⟩
 ·cases hf:i.f x with
  | none=>rfl
  | some p =>
   obtain⟨h1,_,h3⟩:=(h.f x p).1 hf;exact absurd h3 (hx _ (List.getElem_mem h1))
 ·obtain⟨h1,_,h3⟩:=(h.f x p).1 hx;obtain⟨_,_,h4⟩:=(h.f y p).1 hy;rw[<- h3,h4]
 ·rw[h.free] at hp;cases hp
 ·rw[h.free] at hp;have hp':p<A.length:=hp;exact .inr ⟨_,List.getElem_mem hp',(h.f _ _).2 ⟨hp',hp',rfl⟩⟩
 rw[h.G,h.late,<- hT.gone x];unfold goneP ofP;simp only[List.not_mem_nil,or_false,Bool.or_eq_true,Bool.and_eq_true,decide_eq_true_eq];constructor
 ·rintro (h1|⟨h1,_⟩)
  ·exact .inl h1
  exact .inr h1
 rintro (h1|h1)
 ·exact .inl h1
 refine .inr ⟨h1,?_⟩;obtain⟨z1,z2,_⟩:=(hT.gone x).1 (.inr h1)
 have:=hT.lim
 unfold inB
 simp;omega
theorem CpI.start (h:Inv n 0 i []) {i':In} (hm:i'.m=0) (hf:i'.free=i.free) (hnp:i'.np=i.np) (hl:i'.late=i.late) (hG:i'.G=G0) (hc:i'.cl=i.cl) (hff:i'.f=i.f):CpI n A G0 0 i':=by
 have hfr:i.free=[]:=List.eq_nil_of_length_eq_zero (by have:=h.few;rw[List.length_nil] at this;omega);refine⟨hf.trans hfr,hnp.trans h.np,?_,hG,by omega,fun c hcn=>by rw[hc,h.lens c hcn,hfr];rfl,fun c _ j hj=>absurd hj (Nat.not_lt_zero j),fun x p=>?_⟩
 ·rw[hl];cases hh:i.late with
  | nil=>rfl
  | cons x r =>
   obtain⟨z1,z2,_⟩:=(h.gone x).1 (.inr (by rw[hh];simp));omega
 rw[hff,h.no x (fun a ha=>(by cases ha))];constructor
 ·intro e;cases e
 rintro ⟨_,h2,_⟩;exact absurd h2 (Nat.not_lt_zero p)
end
theorem aHb {kind:Int} {x:T3} (h:inC kind x=true):x.2.2.size<=maxLen:=by
 obtain⟨k,n1,s⟩:=x;unfold inC mayV at h;simp only[Bool.and_eq_true] at h;have h1:=h.1
 have hle:s.data.toList.length<=12∨s.data.toList=[]:=by
  split at h1
  ·simp only[Bool.and_eq_true] at h1;exact .inr (List.isEmpty_iff.1 h1.2)
  split at h1
  ·exact .inr (List.isEmpty_iff.1 h1)
  split at h1
  ·simp only[Bool.and_eq_true] at h1
   have:=h1.2
   unfold mayT at this;simp only[Bool.and_eq_true,decide_eq_true_eq] at this;exact .inl this.1
  cases h1
 have hs:s.size=s.data.toList.length:=(by rw[Array.length_toList];rfl);show s.size<=maxLen;unfold maxLen;rcases hle with h2|h2
 ·omega
 rw[h2,List.length_nil] at hs;omega
structure CpG (W:World) (B1 O tb ob:Nat) (t:T) (next:Nat) (A:List R1) (labT:Nat->Nat) (G0:Int->Bool) (k:Nat) (S:Nat->Prop) (w:World):Prop where
 own:∃ i lab,TbM w ob t next i lab/\CpI t.cols.length A G0 k i/\∀ b,lab b≠0->S b/\W.heap.size<=b/\b≠B1/\b≠O
 tab:Tb w tb t next A labT
 sup:∀ b,labT b≠0->S b/\b<W.heap.size
 c1:w.heap[B1]?=some (.cells #[(Value.pointer (some ⟨tb,0,none⟩))] 62)
 c3:w.heap[O]?=some (.cells #[(Value.pointer (some ⟨ob,0,none⟩))] 62)
 old:∀ b,b<W.heap.size->S b∨∃ cur e m,w.heap[b]?=some (.cells cur e m)
 bel:Below W.heap.size W w
section
variable {W A' B':World} {B1 O tb ob next k:Nat} {t:T} {A:List R1} {labT:Nat->Nat} {G0:Int->Bool} {S:Nat->Prop}
theorem CpG.loc (h:CpG W B1 O tb ob t next A labT G0 k S A') (hsz:A'.heap.size<=B'.heap.size) (hb:∀ b,S b->B'.heap[b]?=A'.heap[b]?) (hkc:∀ (b:Nat) (cur:Array Value) (e:TypeId) (m:Nat×Nat),A'.heap[b]?=some (Obj.cells cur e m)->B'.heap[b]?=some (Obj.cells cur e m))
  (hos:B'.os=A'.os/\B'.tape=A'.tape/\B'.output=A'.output):CpG W B1 O tb ob t next A labT G0 k S B':=by
 have htn:Tn (fun b=>¬ S b) A' B':=⟨⟨hos.1,hos.2.1,hos.2.2,hsz,fun b _ hn=>hb b (Classical.not_not.1 hn)⟩,fun b cur e m h1 _=>hkc b cur e m h1⟩;obtain⟨i,lab,h1,h2,h3⟩:=h.own;have hz:∀ {l:Nat->Nat},(∀ b,l b≠0->S b)->∀ b,¬ S b->l b=0:=(fun hl b hn=>Classical.byContradiction fun h=>hn (hl b h));refine⟨⟨i,lab,h1.tn htn (hz (fun b hb=>(h3 b hb).1)),h2,h3⟩,h.tab.tn htn (hz (fun b hb=>(h.sup b hb).1)),h.sup,hkc _ _ _ _ h.c1,hkc _ _ _ _ h.c3,fun b hlt=>(h.old b hlt).imp id (fun ⟨cur,e,m,he⟩=>⟨cur,e,m,hkc b cur e m he⟩),h.bel.trans ⟨hos.1,hos.2.1,hos.2.2,hsz,fun b hlt=>?_⟩⟩;rcases h.old b hlt with h4|⟨cur,e,m,h4⟩
 ·exact hb b h4
 rw[hkc b cur e m h4,h4]
theorem CpG.round {w1 w2 w:World} {i:In} {lab:Nat->Nat} (h:CpG W B1 O tb ob t next A labT G0 k S w1) (hlab:∀ b,lab b≠0->S b/\W.heap.size<=b/\b≠B1/\b≠O) (hin:InW S w1)
  (hC:CpI t.cols.length A G0 k i) (hs:A.Pairwise (fun a b=>a.1<b.1)) (hk:k<A.length) (hv:A[k].2.length=t.cols.length)
  (hb:Below w1.heap.size w1 w2) (hP:PutI w2 ob t next i lab A[k].1 k A[k].2 t.cols.length w) :
  ∃ S2,Grows S S2 w1/\InW S2 w/\Chg S w1 w/\CpG W B1 O tb ob t next A labT G0 (k+1) S2 w:=by
 obtain⟨i2,lab2,h1,h2,h3,h4⟩:=hC.step rfl hs hk hv hP;have hz1:=h.bel.size;have hz2:=hb.size;have hz3:=h4.size;have hch:Chg S w1 w:=(Chg.of_below (S:=fun _=>False) hb).trans h4.chg (fun _ _ h=>h.elim) (fun b _ hb=>(hlab b hb).1)
 have hcell:∀ (b:Nat) (o:Obj),w1.heap[b]?=some o->lab b=0->w.heap[b]?=some o:=fun b o ho hl=>by
  have hlt:=aC ho;rw[h4.chg.block b (by omega) (fun hn=>hn hl),hb.block b hlt,ho]
 have hB:∀ b,(b=B1∨b=O)->lab b=0:=fun b hb=>Classical.byContradiction fun hn=>by
  have:=hlab b hn
  rcases hb with hb|hb
  ·exact this.2.2.1 hb
  exact this.2.2.2 hb
 have hO:∀ b,b<W.heap.size->lab b=0:=(fun b hlt=>Classical.byContradiction fun hn=>by have:=(hlab b hn).2.1;omega);refine⟨fun b=>S b∨(w1.heap.size<=b/\b<w.heap.size),fun b hb=>hb.imp id (fun h=>h.1),fun b hb=>?_,hch,⟨i2,lab2,h1,h2,fun b hb2=>?_⟩,(h.tab.later hb).tn h4 (fun b hn=>?_),fun b hb=>⟨.inl (h.sup b hb).1,(h.sup b hb).2⟩,hcell _ _ h.c1 (hB _ (.inl rfl)),hcell _ _ h.c3 (hB _ (.inr rfl)),fun b hlt=>?_,h.bel.trans ⟨hch.os,hch.tape,hch.output,hch.size,fun b hlt=>?_⟩⟩
 ·rcases hb with hb|hb
  ·have:=hin b hb;omega
  exact hb.2
 ·have hlt:=h1.lt b hb2;rcases Nat.lt_or_ge b w2.heap.size with hlt2|hge
  ·have hl:lab b≠0:=by rw[<- h3 b hlt2];exact hb2
   have:=hlab b hl
   exact⟨.inl this.1,this.2⟩
  have e1:=aC h.c1;have e2:=aC h.c3;exact⟨.inr ⟨by omega,hlt⟩,by omega,by omega,by omega⟩
 ·exact Classical.byContradiction fun hl=>by
   have a1:=(h.sup b hl).2;have a2:=(hlab b hn).2.1;omega
 ·rcases h.old b hlt with h5|⟨cur,e,m,h5⟩
  ·exact .inl (.inl h5)
  exact .inr ⟨cur,e,m,hcell _ _ h5 (hO b hlt)⟩
 rw[h4.chg.block b (by omega) (fun hn=>hn (hO b hlt)),hb.block b (by omega)]
end
theorem TbM.drop {W:World} {tb next:Nat} {t:T} {i:In} {lab:Nat->Nat} (h:TbM W tb t next i lab) {g:Nat} {cur:Array Value} {m:Nat×Nat} (hg:W.heap[g]?=some (.cells cur 146 m)):TbM W tb t next i (fun b=>if b=g then 0 else lab b):=by
 have hty:∀ b,Ty W b->b≠g:=fun b ⟨cs,ty,h1,h2⟩ e=>by
  rw[e,hg] at h1;cases h1;cases h2
 have hrow:∀ {v:Value} {k:Nat} {xs:List Value},HRow W 0 3 1 v k xs->∀ b,v.ownBlock=some b->b≠g:=fun hr b hb e=>by
  obtain⟨_,cur,h1⟩:=hr.block b hb;rw[e,hg] at h1;cases h1
 refine⟨⟨h.form,h.cols,h.col,h.place,h.pm,h.free,h.gone,h.late,?_,fun b hb=>?_,fun b hb=>?_,fun b hb=>?_,fun k hk=>?_,fun k hk b hb=>?_,fun b hb=>?_⟩,h.box⟩
 ·show (if tb=g then 0 else lab tb)=1;rw[if_neg (hty tb h.ty)];exact h.l1
 ·show (if b=g then 0 else lab b)=2;rw[if_neg (fun e=>?_)]
  ·exact h.l2 b hb
  rcases h.place with ⟨h1,_⟩ | ⟨b',h1,h2⟩
  ·rw[h1] at hb;cases hb
  rw[h1] at hb;cases hb
  obtain⟨D,⟨es,ck,h3,_⟩,_⟩:=h2.own;rw[e,hg] at h3;cases h3
 ·show (if b=g then 0 else lab b)=3;rw[if_neg (hrow h.free b hb)];exact h.l3 b hb
 ·show (if b=g then 0 else lab b)=4;rw[if_neg (hrow h.late b hb)];exact h.l4 b hb
 ·show (if i.cb k=g then 0 else lab (i.cb k))=_;rw[if_neg (hty _ (h.col k hk).ty.1)];exact h.l6 k hk
 ·show (if b=g then 0 else lab b)=_;rw[if_neg (hty _ ((h.col k hk).ty.2 b hb))];exact h.l7 k hk b hb
 refine h.lt b (fun e=>hb ?_);show (if b=g then 0 else lab b)=0;rw[e];split <;> rfl
theorem TbM.dropV {W:World} {tb next:Nat} {t:T} {i:In} {lab:Nat->Nat} {v:Value} {l:List R2} (h:TbM W tb t next i lab) (hv:Mv W v l):∃ lab',TbM W tb t next i lab'/\∀ b,lab' b≠0->lab b≠0/\v.ownBlock≠some b:=by
 cases ho:v.ownBlock with
 | none=>exact⟨lab,h,fun b hb=>⟨hb,fun e=>by cases e⟩⟩
 | some g =>
  obtain⟨_,cur,hg⟩:=HRow.block hv g ho;refine⟨_,h.drop hg,fun b hb=>?_⟩;by_cases e:b=g
  ·simp[e] at hb
  ·simp[e] at hb;exact⟨hb,fun h=>e (by cases h;rfl)⟩
theorem aHc {W:World} {tb next:Nat} {t:T} {A:List R1} {lab:Nat->Nat} (h:Tb W tb t next A lab) {a:R1} (ha:a∈A):okVals t a.2=true:=jY fun j hj=>by
 have h1:=h.len a ha;unfold cOk;rw[List.getElem?_eq_getElem hj,List.getElem?_eq_getElem (l:=a.2) (by omega)];exact h.ok a ha j hj _ (List.getElem?_eq_getElem (l:=a.2) (by omega))
theorem aHd {W:World} {tb next:Nat} {t:T} {A:List R1} {lab:Nat->Nat} (h:Tb W tb t next A lab) {a:R1} (ha:a∈A):∀ x∈a.2,x.2.2.size<=maxLen:=fun x hx=>by
 obtain⟨j,hj,rfl⟩:=List.getElem_of_mem hx;have h1:=h.len a ha;exact aHb (h.ok a ha j (by omega) _ (List.getElem?_eq_getElem hj))
section
variable {W:World} {tb next:Nat} {t:T} {A:List R1} {labT:Nat->Nat}
theorem jG {l:List R2} (hl:Nrm l) (hP:Is l (idsP A)) (hs:A.Pairwise (fun a b=>a.1<b.1)):els l=A.map (·.1) :=
 aGV hl hP (by rw[List.pairwise_map];exact hs) (fun x=>by rw[tE];exact qW)
structure JC (w3:World) (E:Nat->Value) (ob next:Nat) (t:T) (i0:In) (lab0:Nat->Nat) (gP:Int->Bool) (l:Nat->Bool) (vs:Nat->Value) (w:World):Prop where
 tn:Tn (fun b=>b=ob) w3 w
 ev:∀ j,j≠3->j≠10->j≠13->l j=true->vs j=E j
 v3:l 3=true->∃ p n c,vs 3=.agg #[.slice p n c]/\Vm w (.slice p n c) gP
 own:∃ v nx G,TbM w ob t nx { i0 with gv:=v,G:=G } lab0/\(l 10=true->G=gP)/\(l 13=true->nx=next)
section
open Par
variable {w3 w w':World} {E:Nat->Value} {ob next:Nat} {t:T} {i0:In} {lab0:Nat->Nat} {gP:Int->Bool} {l:Nat->Bool} {vs:Nat->Value}
theorem JC.up (h:JC w3 E ob next t i0 lab0 gP l vs w) (i:Nat) (hi:i≠3/\i≠10/\i≠13):JC w3 E ob next t i0 lab0 gP (upB l i) (upV vs i (E i)) w:=by
 obtain⟨v,nx,G,h1,h2,h3⟩:=h.own;refine⟨h.tn,fun j a b c hl=>?_,fun hl=>?_,v,nx,G,h1,fun hl=>h2 ?_,fun hl=>h3 ?_⟩
 ·by_cases e:j=i
  ·subst e;rw[aS]
  rw[aJ e];rw[aI e] at hl;exact h.ev j a b c hl
 ·rw[aI (fun e=>hi.1 e.symm)] at hl;rw[aJ (fun e=>hi.1 e.symm)];exact h.v3 hl
 ·rwa [aI (fun e=>hi.2.1 e.symm)] at hl
 rwa [aI (fun e=>hi.2.2 e.symm)] at hl
theorem JC.call (h:JC w3 E ob next t i0 lab0 gP l vs w) (hb:Below w.heap.size w w') {p:Option Addr} {n c:Nat} (hv:Vm w' (.slice p n c) gP):JC w3 E ob next t i0 lab0 gP (upB l 3) (upV vs 3 (.agg #[.slice p n c])) w':=by
 obtain⟨v,nx,G,h1,h2,h3⟩:=h.own;refine⟨h.tn.trans (Tn.of_below (S:=fun _=>False) hb) (fun _ _ h=>h) (fun _ _ h=>h.elim),fun j a b c hl=>?_,fun hl=>⟨p,n,c,aS,hv⟩,v,nx,G,h1.later hb,fun hl=>h2 ?_,fun hl=>h3 ?_⟩
 ·rw[aJ a];rw[aI a] at hl;exact h.ev j a b c hl
 ·rwa [aI (by decide)] at hl
 rwa [aI (by decide)] at hl
theorem JC.st10 (h:JC w3 E ob next t i0 lab0 gP l vs w) (v0:Value) {p:Option Addr} {n c:Nat} (h3:vs 3=.agg #[.slice p n c]) (hv:Vm w (.slice p n c) gP):JC w3 E ob next t i0 lab0 gP (upB l 10) (upV vs 10 v0) (w.setCell ⟨ob,7,none⟩ (.slice p n c)):=by
 obtain⟨v,nx,G,h1,h2,h4⟩:=h.own;have htn:=Tn.own h1 7 (.slice p n c);have hc:Tn (fun b=>b=ob) w (w.setCell ⟨ob,7,none⟩ (.slice p n c)):=Tn.of_chg ((Chg.refl (fun b=>b=ob) w).setCell (p:=⟨ob,7,none⟩) (fun _=>rfl) _) (fun b _ hb=>.inl (hb▸h1.ty));have k2:=h1.toTbR.tn htn (fun b hb=>.inr hb);refine⟨h.tn.trans hc (fun _ _ h=>h) (fun _ _ h=>h),fun j a b c hl=>?_,fun hl=>?_,.slice p n c,nx,gP,⟨⟨k2.form,k2.cols,k2.col,k2.place,k2.pm,k2.free,hv.tn htn,k2.late,k2.l1,k2.l2,k2.l3,k2.l4,k2.l6,k2.l7,k2.lt⟩,heap_setCell_same _ ob 7 _ _ _ h1.box⟩,fun _=>rfl,fun hl=>h4 ?_⟩
 ·rw[aJ b];rw[aI b] at hl;exact h.ev j a b c hl
 ·rw[aJ (by decide)];exact⟨p,n,c,h3,hv.tn htn⟩
 rwa [aI (by decide)] at hl
theorem JC.st13 (h:JC w3 E ob next t i0 lab0 gP l vs w) (v0:Value) (hm:i0.m<=next):JC w3 E ob next t i0 lab0 gP (upB l 13) (upV vs 13 v0) (w.setCell ⟨ob,9,none⟩ (.int .i64 (next:Int))):=by
 obtain⟨v,nx,G,h1,h2,h4⟩:=h.own;have htn:=Tn.own h1 9 (.int .i64 (next:Int));have hc:Tn (fun b=>b=ob) w (w.setCell ⟨ob,9,none⟩ (.int .i64 (next:Int))):=Tn.of_chg ((Chg.refl (fun b=>b=ob) w).setCell (p:=⟨ob,9,none⟩) (fun _=>rfl) _) (fun b _ hb=>.inl (hb▸h1.ty));have k2:=h1.toTbR.tn htn (fun b hb=>.inr hb);refine⟨h.tn.trans hc (fun _ _ h=>h) (fun _ _ h=>h),fun j a b c hl=>?_,fun hl=>?_,v,next,G,⟨⟨k2.form,k2.cols,k2.col,k2.place,hm,k2.free,k2.gone,k2.late,k2.l1,k2.l2,k2.l3,k2.l4,k2.l6,k2.l7,k2.lt⟩,heap_setCell_same _ ob 9 _ _ _ h1.box⟩,fun hl=>h2 ?_,fun _=>rfl⟩
 ·rw[aJ c];rw[aI c] at hl;exact h.ev j a b c hl
 ·rw[aI (by decide)] at hl;rw[aJ (by decide)];obtain⟨p,n,c,e,hv⟩:=h.v3 hl;exact⟨p,n,c,e,hv.tn htn⟩
 rwa [aI (by decide)] at hl
theorem JC.box (h:JC w3 E ob next t i0 lab0 gP l vs w):ob<w.heap.size/\(∀ j,w.frozen? ⟨ob,j,none⟩=false)/\(∃ v,w.cell? ⟨ob,7,none⟩=some v)/\(∃ v,w.cell? ⟨ob,9,none⟩=some v):=by
 obtain⟨v,nx,G,h1,h2,h4⟩:=h.own;exact⟨h1.tlt,h1.fz,⟨_,h1.cells.2.2.2.2.2.2.2.1⟩,⟨_,h1.cells.2.2.2.2.2.2.2.2.2⟩⟩
end
structure O_ne (w2:World) (ob:Nat) (W:World):Prop where
 lt:ob<w2.heap.size
 le:W.heap.size<=w2.heap.size
theorem zS (h:Tb W tb t next A labT) (hf:Few t) (hk:∀ c∈t.cols,c.kd=1∨c.kd=2) (hn:next<=590) (h0:0<t.cols.length) :
  Calls Tryz.prog 93 #[.pointer (some ⟨tb,0,none⟩)] W fun e W'=>∃ ob lab,e=.returned (Value.pointer (some ⟨ob,0,none⟩))/\Tb W' ob t next A lab/\(∀ b,lab b≠0->W.heap.size<=b)/\Below W.heap.size W W':=by
 have hc:t.cols.length<=1000:=hf.1;obtain⟨iT,hT1,hT2⟩:=h;have hb1:=aD W (.cells #[(Value.pointer (some ⟨tb,0,none⟩))] 62);have hx1:=heap_alloc_new W (.cells #[(Value.pointer (some ⟨tb,0,none⟩))] 62);obtain⟨pc,kc,hfc,_,_⟩:=hT1.form.rd.1.slice;obtain⟨pd,kd,hfd,_,_⟩:=hT1.form.rd.2.slice;have hnew:=mX (hT1.later hb1).form.rd hf hk;obtain⟨c0,c1,c2,c3,_⟩:=hT1.cells;have zt:=hT1.tlt;rw[hfc] at c1 hnew;rw[hfd] at c3 hnew;have HT:=qAq (qBq hT1 hT2);have HB:=qAq (qBq hb1 hx1);have HF:=qAq (qBq hf (qBq hk (qBq hn (qBq h0 hc))));obtain⟨nm,hnm⟩:∃ x,t.nm=x:=⟨_,rfl⟩;obtain⟨key,hkey⟩:∃ x,t.key=x:=⟨_,rfl⟩;obtain⟨n,hnn⟩:∃ x,t.cols.length=x:=⟨_,rfl⟩;obtain⟨nd,hnd⟩:∃ x,t.deps.length=x:=⟨_,rfl⟩;rw[hnm,hkey,hnn,hnd] at hnew;rw[hnm] at c0;rw[hkey] at c2;rw[hnn] at c1;rw[hnd] at c3;have HN:=qAq (qBq hnn hnd);clear hf hk hn h0 hc hb1 hx1 hT1 hT2 hfc hfd hnm hkey hnn hnd;refine (callsIn_wide (n:=0)).1 ?_;refine callsIn_of_wp_marks Tryz.func93 rfl trivial ?_ rfl;simp only[Tryz.ntmps93,List.size_toArray,List.length_cons,List.length_nil,Nat.reduceAdd,Nat.reduceSub,Array.replicate_succ,Array.replicate_zero,List.push_toArray,List.append_toArray,List.nil_append,List.cons_append]
 gi_wp2_with (gi_at_call 63;refine aL rfl ?_;(with_reducible refine hnew.mono ?_);rintro e w2 ⟨ob,lab0,rfl,hTb2,hlo2,hb2⟩;have H2:=qAq (qBq hTb2 (qBq hlo2 hb2));clear hTb2 hlo2 hb2 hnew)
 have hb3:=aD w2 (.cells #[(Value.pointer (some ⟨ob,0,none⟩))] 62);have hx3:=heap_alloc_new w2 (.cells #[(Value.pointer (some ⟨ob,0,none⟩))] 62);have hbW2:=aB HB.out.1 H2.out.2.2;have hxB:=aE hb3 (aE H2.out.2.2 HB.out.2);obtain⟨i0,o1,o2⟩:=H2.out.1;have o3:=o1.later hb3;have t3:=HT.out.1.later (aB hbW2 hb3);have hbW3:=aB hbW2 hb3;have hObne:O_ne w2 ob W:=⟨o1.tlt,hbW2.size⟩;obtain⟨w3,hw3⟩:∃ w3,w2.alloc (.cells #[(Value.pointer (some ⟨ob,0,none⟩))] 62)=w3:=⟨_,rfl⟩;obtain⟨O,hO⟩:∃ x,w2.heap.size=x:=⟨_,rfl⟩;obtain⟨B1,hB1⟩:∃ x,W.heap.size=x:=⟨_,rfl⟩;rw[hw3] at hx3 hxB o3 t3 hbW3;rw[hO] at hx3;rw[hB1] at hxB;have HX:Hid (∀ w,Below w3.heap.size w3 w->w.heap[B1]?=some (.cells #[(Value.pointer (some ⟨tb,0,none⟩))] 62)/\w.heap[O]?=some (.cells #[(Value.pointer (some ⟨ob,0,none⟩))] 62)/\TbM w tb t next iT labT/\TbM w ob t 0 i0 lab0):=qAq (fun w hw=>⟨aE hw hxB,aE hw hx3,t3.later hw,o3.later hw⟩);have H3:=qAq (qBq hbW3 (qBq o2 (qBq hw3 (qBq hO (qBq hB1 hObne)))));clear hb3 hx3 hbW2 hxB o1 o2 o3 t3 hbW3 hObne hw3 hO hB1 c0 c1 c2 c3 zt;rw[H3.out.2.2.1,H3.out.2.2.2.1,H3.out.2.2.2.2.1];refine wpIn_wide.2 ?_;have hgone:∀ w,TbM w tb t next iT labT->Calls Tryz.prog 74 #[.pointer (some ⟨tb,0,none⟩)] w (IsV (goneP iT) w):=(fun w h=>jW h (by have:=HT.out.2.lat;omega));have HG:=qAq hgone;have ent36:=enters_of Tryz.func74 (by kernel_rfl) rfl;have zz3:=H3.out.2.2.2.2.2;have zO:=H3.out.2.2.2.1;have zB:=H3.out.2.2.2.2.1;have hlo:=H2.out.2.1 ob (by rw[(HX.out w3 (Below.refl _ _)).2.2.2.l1];decide);rw[World.size_alloc] at hlo;have hne1:O≠ob:=(by have:=zz3.lt;omega);have hne2:B1≠ob:=(by omega);have hlT:labT ob=0:=Classical.byContradiction fun h=>by have:=HT.out.1.lt ob h;omega
 have HX2:Hid (∀ w,Tn (fun b=>b=ob) w3 w->w.heap[B1]?=some (.cells #[(Value.pointer (some ⟨tb,0,none⟩))] 62)/\w.heap[O]?=some (.cells #[(Value.pointer (some ⟨ob,0,none⟩))] 62)/\TbM w tb t next iT labT):=qAq (fun w hw=>by
  obtain⟨a1,a2,a3,_⟩:=HX.out w3 (Below.refl _ _);exact⟨(hw.chg.block B1 (aC a1) hne2).trans a1,(hw.chg.block O (aC a2) hne1).trans a2,a3.tn hw (fun b hb=>by rw[hb];exact hlT)⟩)
 have hm0:i0.m<=next:=(by have:=(HX.out w3 (Below.refl _ _)).2.2.2.pm;omega);have HM:=qAq (qBq hm0 (qBq hlo (qBq hne1 (qBq hne2 hlT))));clear hgone zz3 zO zB hlo hne1 hne2 hlT hm0;refine Par.wp_region_par4 14 (JC w3 (fun idx=>[(Value.pointer (some ⟨ob,0,none⟩)),(Value.pointer (some ⟨ob,0,none⟩)),(Value.pointer (some ⟨tb,0,none⟩)),undef,(Value.pointer (some ⟨tb,0,none⟩)),(Value.pointer (some ⟨tb,0,none⟩)),(Value.pointer (some ⟨tb,9,none⟩)),(Value.int .i64 ((next:Int))),(Value.pointer (some ⟨ob,0,none⟩)),(Value.pointer (some ⟨ob,7,none⟩)),undef,(Value.pointer (some ⟨ob,0,none⟩)),(Value.pointer (some ⟨ob,9,none⟩)),undef].getD idx undef) ob next t i0 lab0 (goneP iT)) ?AA ?hmA ?hBA ?hAA ?hJA ?hopA ?hTA
 case hmA=>kernel_rfl
 case hBA=>kernel_rfl
 case hAA =>
  intro vs;simp only[Par.putA,Par.dstAt,Act.put,qDq,qEq,qFq,qLq,qGq,qHq,qIq];rfl
 case hJA =>
  intro vs;have hd:=aF w3;exact⟨Tn.of_below hd,fun _ _ _ _ h=>(by cases h),fun h=>(by cases h),_,0,i0.G,(HX.out _ hd).2.2.2,fun h=>(by cases h),fun h=>(by cases h)⟩
 case hopA =>
  simp only[qMq,List.take_zero,Par.GiveAllK,and_true];and_intros<;>intro l vs w hJ hl hd hcl
  ·have HJ:=qAq hJ;have y:=aA (HX2.out w hJ.tn).2.1 0;clear hJ hd hcl;simp only[Par.GivesW];go_simp;all_goals exact HJ.out.up 0 (by decide)
  ·have HJ:=qAq hJ;have y:=aA (HX2.out w hJ.tn).2.1 0;clear hJ hd hcl;simp only[Par.GivesW];go_simp;all_goals exact HJ.out.up 1 (by decide)
  ·have HJ:=qAq hJ;have y:=aA (HX2.out w hJ.tn).1 0;clear hJ hd hcl;simp only[Par.GivesW];go_simp;all_goals exact HJ.out.up 2 (by decide)
  ·have HJ:=qAq hJ;have d2:vs 2=(Value.pointer (some ⟨tb,0,none⟩)):=hJ.ev 2 (by decide) (by decide) (by decide) (hd 2 (by kernel_rfl));have hg:=HG.out w (HX2.out w hJ.tn).2.2;clear hJ hd hcl;simp only[Par.GivesW,d2];go_simp;refine hg.mono ?_;rintro e y2 ⟨p9,n9,c9,rfl,hv9,hb9⟩;exact⟨_,rfl,HJ.out.call hb9 hv9⟩
  ·have HJ:=qAq hJ;have y:=aA (HX2.out w hJ.tn).1 0;clear hJ hd hcl;simp only[Par.GivesW];go_simp;all_goals exact HJ.out.up 4 (by decide)
  ·have HJ:=qAq hJ;have d4:vs 4=(Value.pointer (some ⟨tb,0,none⟩)):=hJ.ev 4 (by decide) (by decide) (by decide) (hd 4 (by kernel_rfl));have yz:=(HX2.out w hJ.tn).2.2.tlt;clear hJ hd hcl;simp only[Par.GivesW,d4];go_simp;all_goals exact HJ.out.up 5 (by decide)
  ·have HJ:=qAq hJ;have d5:vs 5=(Value.pointer (some ⟨tb,0,none⟩)):=hJ.ev 5 (by decide) (by decide) (by decide) (hd 5 (by kernel_rfl));have yz:=(HX2.out w hJ.tn).2.2.tlt;clear hJ hd hcl;simp only[Par.GivesW,d5];go_simp;all_goals exact HJ.out.up 6 (by decide)
  ·have HJ:=qAq hJ;have d6:vs 6=(Value.pointer (some ⟨tb,9,none⟩)):=hJ.ev 6 (by decide) (by decide) (by decide) (hd 6 (by kernel_rfl));have y:=(HX2.out w hJ.tn).2.2.cells.2.2.2.2.2.2.2.2.2;clear hJ hd hcl;simp only[Par.GivesW,d6];go_simp;all_goals exact HJ.out.up 7 (by decide)
  ·have HJ:=qAq hJ;have d0:vs 0=(Value.pointer (some ⟨ob,0,none⟩)):=hJ.ev 0 (by decide) (by decide) (by decide) (hd 0 (by kernel_rfl));have yz:=hJ.box.1;clear hJ hd hcl;simp only[Par.GivesW,d0];go_simp;all_goals exact HJ.out.up 8 (by decide)
  ·have HJ:=qAq hJ;have d8:vs 8=(Value.pointer (some ⟨ob,0,none⟩)):=hJ.ev 8 (by decide) (by decide) (by decide) (hd 8 (by kernel_rfl));have yz:=hJ.box.1;clear hJ hd hcl;simp only[Par.GivesW,d8];go_simp;all_goals exact HJ.out.up 9 (by decide)
  ·have HJ:=qAq hJ;have d9:vs 9=(Value.pointer (some ⟨ob,7,none⟩)):=hJ.ev 9 (by decide) (by decide) (by decide) (hd 9 (by kernel_rfl));obtain⟨p9,n9,c9,d3,hv9⟩:=hJ.v3 (hd 3 (by kernel_rfl));have yz:=hJ.box.1;have yf:=hJ.box.2.1 7;obtain⟨yv,yc⟩:=hJ.box.2.2.1;clear hJ hd hcl;simp only[Par.GivesW,d9,d3];go_simp;all_goals exact HJ.out.st10 _ d3 hv9
  ·have HJ:=qAq hJ;have d1:vs 1=(Value.pointer (some ⟨ob,0,none⟩)):=hJ.ev 1 (by decide) (by decide) (by decide) (hd 1 (by kernel_rfl));have yz:=hJ.box.1;clear hJ hd hcl;simp only[Par.GivesW,d1];go_simp;all_goals exact HJ.out.up 11 (by decide)
  ·have HJ:=qAq hJ;have d11:vs 11=(Value.pointer (some ⟨ob,0,none⟩)):=hJ.ev 11 (by decide) (by decide) (by decide) (hd 11 (by kernel_rfl));have yz:=hJ.box.1;clear hJ hd hcl;simp only[Par.GivesW,d11];go_simp;all_goals exact HJ.out.up 12 (by decide)
  have HJ:=qAq hJ;have d12:vs 12=(Value.pointer (some ⟨ob,9,none⟩)):=hJ.ev 12 (by decide) (by decide) (by decide) (hd 12 (by kernel_rfl));have d7:vs 7=(Value.int .i64 ((next:Int))):=hJ.ev 7 (by decide) (by decide) (by decide) (hd 7 (by kernel_rfl));have yz:=hJ.box.1;have yf:=hJ.box.2.1 9;obtain⟨yv,yc⟩:=hJ.box.2.2.2;clear hJ hd hcl;simp only[Par.GivesW,d12,d7];go_simp;all_goals exact HJ.out.st13 _ HM.out.1
 intro l vs w4 hl hJ;simp only[qNq,List.drop_zero];obtain⟨p3,n3,c3,e3,hv3⟩:=hJ.v3 (hl 3 (by decide));obtain⟨v5,nx5,G5,hob,hG5,hn5⟩:=hJ.own;obtain rfl:G5=goneP iT:=hG5 (hl 10 (by decide));obtain rfl:nx5=next:=hn5 (hl 13 (by decide));obtain⟨x1,x2,x3⟩:=HX2.out w4 hJ.tn;have HK:=qAq (qBq hJ.tn (qBq x1 (qBq x2 (qBq x3 hob))));have y1:=aA x1 0;have y2:=aA x2 0;have hlive:Calls Tryz.prog 52 #[.pointer (some ⟨tb,0,none⟩)] w4 (IsV (idsP A) w4):=fD (⟨_,x3,HT.out.2⟩:Tb w4 tb t nx5 A labT);generalize vs 0=s0;generalize vs 1=s1;generalize vs 2=s2;generalize vs 3=s3;generalize vs 4=s4;generalize vs 5=s5;generalize vs 6=s6;generalize vs 7=s7;generalize vs 8=s8;generalize vs 9=s9;generalize vs 11=s11;generalize vs 12=s12;clear hJ hl e3 hv3 hob x1 x2 x3 hG5 hn5;unfold wpList
 gi_wp2_with (gi_at_call 52;refine aL rfl ?_;(with_reducible refine hlive.mono ?_);rintro e w5 ⟨pl,nl,cl,rfl,hvl,hb5⟩)
 obtain⟨lr,hmv,hnl,hil⟩:=hvl;have h37:=gA hmv;have hA:=jG hnl hil HT.out.2.srt;have hc5:=Cell.new w5 (.slice pl nl cl) 102
 gi_wp2_with (gi_at_call 83;refine aL rfl ?_;(with_reducible refine h37.mono ?_);rintro e w6 ⟨rfl,hw6⟩)
 obtain⟨c,hc⟩:∃ c,w5.heap.size=c:=⟨_,rfl⟩;obtain⟨xs,hxs⟩:∃ xs:List Int,A.map (·.1)=xs:=⟨_,rfl⟩;have hxl:xs.length=A.length:=(by rw[<- hxs,List.length_map]);rw[hc] at hc5
 try rw[hc]
 rw[hxs] at hA;have hb6:Below w5.heap.size w5 w6:=(by rw[hw6];exact aD w5 _);have hz6:w6.heap.size=c+1:=(by rw[hw6];simp[hc]);rw[<- hw6] at hc5
 try rw[<- hw6]
 clear hw6 h37 hlive y1 y2;have hb46:Below w4.heap.size w4 w6:=aB hb5 hb6;have hmv6:=hmv.later hb6;have hz4:w4.heap.size<=c:=(by have:=hb5.size;omega);obtain⟨lab5,q1,q2⟩:=(HK.out.2.2.2.2.later hb46).dropV hmv6;obtain⟨labU,u1,u2⟩:=(HK.out.2.2.2.1.later hb46).dropV hmv6;have hinv0:=H3.out.2.1;have hl4:=HK.out.2.2.2.2.lt;have hm0:i0.m=0:=(by have:=(HX.out w3 (Below.refl _ _)).2.2.2.pm;omega);have hcp0:CpI t.cols.length A (goneP iT) 0 { i0 with gv:=v5,G:=goneP iT }:=CpI.start hinv0 hm0 rfl rfl rfl rfl rfl rfl;have zO:w2.heap.size=O:=H3.out.2.2.2.1;have zB:W.heap.size=B1:=H3.out.2.2.2.2.1;have hlabw:∀ b,lab0 b≠0->b<w2.heap.size:=H2.out.1.lt;have hlow:∀ b,lab0 b≠0->W.heap.size+1<=b:=(fun b hb=>by have:=H2.out.2.1 b hb;rwa [World.size_alloc] at this);have hTlt:∀ b,labT b≠0->b<W.heap.size:=HT.out.1.lt;have zz3:=H3.out.2.2.2.2.2;have hbel4:Below W.heap.size W w4:=H3.out.1.trans (HK.out.1.chg.below H3.out.1.size (fun b hb e=>by have:=HM.out.2.1;omega));have hb4W:w2.heap.size<=w4.heap.size:=by have h1:=HK.out.1.size;have:=aC HK.out.2.2.1;omega
 have h0:CpG W B1 O tb ob t nx5 A labU (goneP iT) 0 (fun b=>b<w6.heap.size/\b≠c/\(Value.slice pl nl cl).ownBlock≠some b) w6:=by
  refine⟨⟨_,lab5,q1,hcp0,fun b hb=>?_⟩,⟨iT,u1,HT.out.2⟩,fun b hb=>?_,aE hb46 HK.out.2.1,aE hb46 HK.out.2.2.1,fun b hb=>?_,hbel4.trans ⟨hb46.os,hb46.tape,hb46.output,hb46.size,fun b hb=>hb46.block b (by have:=hbel4.size;omega)⟩⟩
  ·obtain⟨k1,k2⟩:=q2 b hb;have k3:=hlabw b k1;have k4:=hlow b k1;exact⟨⟨by omega,by omega,k2⟩,by omega,by omega,by omega⟩
  ·obtain⟨k1,k2⟩:=u2 b hb;have k3:=hTlt b k1;have k4:=hbel4.size;exact⟨⟨by omega,by omega,k2⟩,k3⟩
  have k4:=hbel4.size;by_cases e:(Value.slice pl nl cl).ownBlock=some b
  ·obtain⟨_,cur,h1⟩:=HRow.block hmv6 b e;exact .inr ⟨cur,_,_,h1⟩
  exact .inl ⟨by omega,by omega,e⟩
 have hgv:=Kc.all_gives c hnl w6 hmv6;rw[hA] at hgv;generalize hact:({ tmps:=_,defers:=_ }:Act)=act;have hvb:∀ b,(Value.slice pl nl cl).ownBlock=some b->b<w6.heap.size:=(fun b hb=>(HRow.lt hmv6 b hb).2);have HTT:=qAq (qBq hxl (qBq hz6 (qBq zB zO)));clear hb6 hmv hb46 q1 q2 u1 u2 hinv0 hl4 hcp0 hlabw hlow hTlt hb5 hil hb4W
 refine Kc.wpIn_rangeFunc_sep (sv:=.func (.func 119) #[] #[(Value.pointer (some ⟨c,0,none⟩))]) (by rw[<- hact];rfl) hgv (fun _=>rfl)
  (CpG W B1 O tb ob t nx5 A labU (goneP iT)) (fun _ _ _ _=>False) ?l1 (fun _ _ _ _ _ h=>h.elim) _ ?hS ?hM ?hSM ⟨hc5,hmv6⟩ h0
  (fun x=>{ tmps:=(act.tmps.setIfInBounds 29 (Value.int .i64 (x))).setIfInBounds 4 (Value.int .i64 (x)),defers:=[] }) ?pre ?body ?done (fun _ _ _ _ _ _ _ _ _ h=>h.elim)
 case l1=>exact fun k T A B h hin hsz hb hkc hos=>h.loc hsz hb hkc hos
 case hS=>exact fun b hb=>hb.1
 case hM =>
  rintro b (rfl|h)
  ·omega
  exact hvb b h
 case hSM =>
  rintro b hb (h|h)
  ·exact hb.2.1 h
  exact hb.2.2 h
 case pre =>
  intro l x W K hK;subst hact;dsimp only[enc1]
  gi_wp2
  exact hK
 case body =>
  rintro l k hk T W1 hin hchg hG;have hk':k<A.length:=(by rw[<- hxl];exact hk);have hx:xs[k]=A[k].1:=(by simp only[<- hxs,List.getElem_map]);rw[hx];obtain⟨i,lab,g1,g2,g3⟩:=hG.own;have hinv:=HT.out.2;have hrow:=fC hG.tab (List.getElem_mem hk') HF.out.2.2.2.2 HF.out.2.2.2.1;have hlen:=hG.tab.len _ (List.getElem_mem hk')
  have hfn:i.f A[k].1=none:=by
   cases hf:i.f A[k].1 with
   | none=>rfl
   | some p =>
    obtain⟨z1,z2,z3⟩:=(g2.f _ _).1 hf
    have:=rA hinv.srt z1 hk' z3
    omega
  have hput:∀ w2 g c,Below W1.heap.size W1 w2->W1.heap.size<=g->HRow w2 W1.heap.size 32 3 (.slice (some ⟨g,0,none⟩) t.cols.length c) t.cols.length (cells3 A[k].2)->_:=fun w2 g c hb2 hg hr =>
   tD (S:=fun b=>(Value.slice (some ⟨g,0,none⟩) t.cols.length c).ownBlock=some b) (g1.later hb2) (Tb.f64 hinv (List.getElem_mem hk')) hfn (InV.of_row hr hlen) (fun b hb=>Classical.byContradiction fun hn=>by cases hb;have:g<W1.heap.size:=g1.lt _ hn;omega) hlen (aHc hG.tab (List.getElem_mem hk')) (aHd hG.tab (List.getElem_mem hk'))
    (by rw[g2.np];have:=hinv.few;have:=HF.out.2.2.1;omega) (by rw[g2.free];exact Nat.zero_le _) (by rw[g2.free];exact fun _ h=>(by cases h)) (fun j hj=>by rw[g2.lens j hj,g2.spot];have:=hinv.few;have:=HF.out.2.2.1;omega) (by have:=g2.m;have:=hinv.few;omega) hinv.lim
  have HGG:=qAq (qBq hG (qBq g1 (qBq g2 (qBq g3 (qBq hin (qBq hinv hlen))))));have y1:=aA hG.c1 0;subst hact;dsimp only;clear hG g1 g2 g3 hfn hinv hin hchg h0
  gi_wp2_with (first
   | (gi_at_call 84;refine aL rfl ?_;(with_reducible refine hrow.mono ?_);rintro e w7 ⟨g,cg,rfl,hge,hr,hb7⟩;have hput:=hput w7 g cg hb7 hge hr;have y3:=aA (aE hb7 HGG.out.1.c3) 0;have HB7:=qAq hb7;clear hrow y1 hr hb7)
   | (gi_at_call 70;refine aL rfl ?_;(with_reducible refine hput.mono ?_);rintro e w8 ⟨rfl,hP⟩))
  obtain⟨hG,g1,g2,g3,hin,hinv,hlen⟩:=HGG.out;rw[g2.spot] at hP;exact hG.round g3 hin g2 hinv.srt hk' hlen HB7.out hP
 rintro S' W' hg hi hch hG hQ hK hnD;subst hact;have y3:=aA hG.c3 0;have HGG:=qAq (qBq hG (qBq hK hnD));clear hG hg hi hch hQ hnD
 gi_wp2_with fail
 obtain⟨hG,hK,hnD⟩:=HGG.out;refine wH (fn:=Tryz.f93) (t:=2) rfl hK (fun w' hch hsz=>?_);obtain⟨i,lab,g1,g2,g3⟩:=hG.own;rw[HTT.out.1] at g2;have htn:Tn (fun b=>b=w6.heap.size) W' w':=⟨hch,fun b cur e m hb _=>(hch.block b (aC hb) (fun e'=>by rw[e',hK] at hb;cases hb)).trans hb⟩;refine⟨ob,lab,rfl,⟨i,g1.tn htn (fun b hb=>Classical.byContradiction fun hn=>hnD (hb▸(g3 b hn).1)),g2.inv HT.out.2 (fun a ha=>hG.tab.len a ha)⟩,fun b hb=>(g3 b hb).2.1,hG.bel.trans (hch.below hG.bel.size (fun b hb e=>?_))⟩
 have:=hbel4.size
 have:=HTT.out.2.1
 omega
end
end Go.Proofs.YthlccadnojnkaaaGreat
namespace Go.Proofs.YthlccadnojnkaaaGreat
open Go Go.RowKit Go.Proofs Co Co.S
abbrev tShop:T:=formT tShopS
theorem mY:Few tShop:=⟨by decide,by decide,by decide⟩
theorem zT:∀ c∈tShop.cols,c.kd=1∨c.kd=2:=by decide
def IsF (t:T) (W:World) (e:Ending) (w':World):Prop:=∃ cv dv,e=.returned (.agg #[.string t.nm,cv,.string t.key,dv])/\RdT w' cv dv t/\Below W.heap.size W w'
abbrev z4:Array Value:=#[.string e0,.slice none 0 0,.string e0,.slice none 0 0]
theorem RdX.off {W W':World} {v:Value} {n k B:Nat} {xs:List Value} (h:RdX W v n k xs) (hB:W.heap[B]?=some (.cells z4 77)) {j:Nat} {u:Value} (hu:xs[j]?=some u) (hne:∀ i:Nat,z4[i]?≠some u)
  (hk:∀ b,b≠B->W'.heap[b]?=W.heap[b]?):RdX W' v n k xs:=by
 obtain⟨h0,p,cap,h1,h2,h3,hsp,h4⟩:=h;refine⟨h0,p,cap,h1,h2,h3,hsp,fun hn=>?_⟩;obtain⟨b,off,cur,e,m,h5,h6,h7,h8,h9⟩:=h4 hn;refine⟨b,off,cur,e,m,h5,(hk b (fun e'=>?_)).trans h6,h7,h8,h9⟩;rw[e',hB] at h6;cases h6;exact hne _ (h9 j u hu)
theorem aCP {u:Value} (h1:u≠.string e0) (h2:u≠.slice none 0 0):∀ i:Nat,z4[i]?≠some u:=by
 intro i h;rcases i with _|_|_|_|i
 ·exact h1 (Option.some.inj h).symm
 ·exact h2 (Option.some.inj h).symm
 ·exact h1 (Option.some.inj h).symm
 ·exact h2 (Option.some.inj h).symm
 cases h
theorem RdT.off {W W':World} {cv dv:Value} {B:Nat} (h:RdT W cv dv tShop) (hB:W.heap[B]?=some (.cells z4 77)) (hk:∀ b,b≠B->W'.heap[b]?=W.heap[b]?):RdT W' cv dv tShop:=by
 obtain⟨h1,ps,h2,h3,h4⟩:=h;refine⟨RdX.off h1 hB (j:=1) (u:=.int .i64 1) rfl (aCP (by simp) (by simp)) hk,ps,h2,?_,fun j hj hj'=>?_⟩
 ·have hp:∃ x,ps=[x]:=List.length_eq_one_iff.1 h2;obtain⟨x,rfl⟩:=hp;exact RdX.off h3 hB (j:=1) (u:=.string sZone) rfl (aCP (by simp) (by simp)) hk
 have hz:j=0:=(by have:j<1:=hj';omega);subst hz;exact RdX.off (h4 0 hj hj') hB (j:=0) (u:=.string sCity) rfl (aCP (by simp) (by simp)) hk
theorem aCQ (W:World):Calls Tryz.prog 157 #[] W (IsF tShop W):=by
 have hb:=aD W (.cells #[.string e0,.slice none 0 0,.string e0,.slice none 0 0] 77);have hk:=heap_alloc_new W (.cells #[.string e0,.slice none 0 0,.string e0,.slice none 0 0] 77);have hstar:=aCF (W.alloc (.cells #[.string e0,.slice none 0 0,.string e0,.slice none 0 0] 77));obtain⟨w1,hw1⟩:∃ w1,W.alloc (.cells #[.string e0,.slice none 0 0,.string e0,.slice none 0 0] 77)=w1:=⟨_,rfl⟩;obtain⟨B,hB⟩:∃ B,W.heap.size=B:=⟨_,rfl⟩;rw[hw1] at hb hk hstar;rw[hB] at hk;have HW:=qAq hw1;have HB:=qAq hB;have HK:=qAq (qBq hb hk);clear hw1 hb hk hB;go_enter Tryz.func157,Tryz.ntmps157;go_upto_region 1 with fail;rw[HW.out,HB.out]
 go_wp2_with (first
  | (go_at_call 33;(with_reducible refine hstar.mono ?_);rintro e w2 ⟨v,rfl,hR,hb2⟩;obtain⟨p,cap,rfl,_,_⟩:=hR.slice;obtain⟨b,off,cv,dv,rfl,hlt,c0,c1,c2,c3,hT⟩:=hR.tab (i:=1) (by decide);obtain⟨pc,kc,rfl,_,_⟩:=hT.c.slice;obtain⟨pd,kd,rfl,_,_⟩:=hT.d.slice;have hform:=pG hT (by decide) (by decide);have H2:=qAq (aE hb2 HK.out.2);have HB2:=qAq (aB HK.out.1 hb2);clear hb2 hR)
  | (go_at_call 68;(with_reducible refine hform.mono ?_);rintro e w3 ⟨p1,k1,rfl,hT3,hb3⟩;have hx:=aE hb3 H2.out;have z0:=aA hx 0;have z1:=aA hx 1;have z2:=aA hx 2;have z3:=aA hx 3;have zf:=fun i=>frozen_of_row w3 B i _ _ hx;have zl:=aC hx;have H3:=qAq (qBq hT3 (qBq (aB HB2.out hb3) hx));clear hx hT3 hb3))
 have hS4:=set4 H3.out.2.2 (.string sShop) (.slice p1 4 k1) (.string sId) (.slice pd 1 kd);have hBx:=bD H3.out.2.1 (Nat.le_of_eq HB.out) (.string sShop) (.slice p1 4 k1) (.string sId) (.slice pd 1 kd);have hO:=RdT.off (W':=(((w3.setCell ⟨B,0,none⟩ (.string sShop)).setCell ⟨B,1,none⟩ (.slice p1 4 k1)).setCell ⟨B,2,none⟩ (.string sId)).setCell ⟨B,3,none⟩ (.slice pd 1 kd)) H3.out.1 H3.out.2.2 (fun q hq=>cG w3 B q hq (.string sShop) (.slice p1 4 k1) (.string sId) (.slice pd 1 kd));show bodyPost Tryz.prog Tryz.f157 (IsF tShop W) Exit.ret _ ((((w3.setCell ⟨B,0,none⟩ (.string sShop)).setCell ⟨B,1,none⟩ (.slice p1 4 k1)).setCell ⟨B,2,none⟩ (.string sId)).setCell ⟨B,3,none⟩ (.slice pd 1 kd));generalize (((w3.setCell _ _).setCell _ _).setCell _ _).setCell _ _=wz at hS4 hBx hO ⊢;have y0:=aA hS4 0;have y1:=aA hS4 1;have y2:=aA hS4 2;have y3:=aA hS4 3;refine bodyPost_ret (v:=.agg #[.string sShop,(.slice p1 4 k1),.string sId,(.slice pd 1 kd)]) (by simp[results,Tryz.results157,go_sem,y0,y1,y2,y3]) rfl ?_;exact⟨_,_,rfl,hO,hBx⟩
abbrev rowL (id:Int) (city:ByteArray):List T3:=[(1,id,e0),(2,0,city),z3,z3]
theorem zU (id:Int) (city:ByteArray) (W:World):Calls Tryz.prog 158 #[.int .i64 id,.string city] W fun e w'=>e=.returned (.slice (some ⟨W.heap.size,0,none⟩) 4 4)/\HRow w' W.heap.size 32 3 (.slice (some ⟨W.heap.size,0,none⟩) 4 4) 4 (cells3 (rowL id city))/\Below W.heap.size W w':=by
 go_enter Tryz.func158,Tryz.ntmps158;go_wp2_with fail;go_ret;exact⟨rfl,⟨rfl,.inr ⟨_,4,_,rfl,Nat.le_refl _,heap_alloc_new W _,Nat.le_refl _,by decide,by simp,rfl⟩⟩,aD W _⟩
def St (W w:World) (tb next:Nat) (A:List R1):Prop:=∃ lab,Tb w tb tShop next A lab/\(∀ b,lab b≠0->W.heap.size<=b)/\Below W.heap.size W w
section
variable {W w w' w0:World} {tb next:Nat} {A:List R1}
theorem St.later (h:St W w tb next A) (hb:Below w.heap.size w w'):St W w' tb next A:=by
 obtain⟨lab,h1,h2,h3⟩:=h;exact⟨lab,h1.later hb,h2,h3.trans (hb.mono h3.size)⟩
theorem St.bel (h:St W w tb next A):Below W.heap.size W w:=by obtain⟨lab,h1,h2,h3⟩:=h;exact h3
theorem rB {A':List R1} {next':Nat} {lab lab':Nat->Nat} (h2:∀ b,lab b≠0->W.heap.size<=b) (h3:Below W.heap.size W w) (k1:Tb w' tb tShop next' A' lab') (k2:Ext w lab lab') (k3:Tn (fun b=>lab b≠0) w w'):St W w' tb next' A':=by
 refine⟨lab',k1,fun b hb=>?_,h3.trans (k3.chg.below h3.size (fun b hb hn=>?_))⟩
 ·rcases Nat.lt_or_ge b w.heap.size with hlt|hge
  ·exact h2 b (by rw[<- k2 b hlt];exact hb)
  have:=h3.size;omega
 have:=h2 b hn;omega
theorem aHe {cv dv:Value} (h:RdT w cv dv tShop) (hb:Below W.heap.size W w):Calls Tryz.prog 63 #[.agg #[.string tShop.nm,cv,.string tShop.key,dv]] w fun e w'=>∃ tb,e=.returned (Value.pointer (some ⟨tb,0,none⟩))/\St W w' tb 0 []:=by
 refine (mX h mY zT).mono ?_;rintro e w' ⟨tb,lab,rfl,h1,h2,h3⟩;exact⟨tb,rfl,lab,h1,fun b hb2=>Nat.le_trans hb.size (h2 b hb2),hb.trans (h3.mono hb.size)⟩
theorem aCR (h:St W w0 tb next A) (hb:Below w0.heap.size w0 w) {v:Value} {vals:List T3} (hr:HRow w w0.heap.size 32 3 v vals.length (cells3 vals)) (hn:next<=590) (hs:∀ x∈vals,x.2.2.size<=maxLen) (hok:insE tShop vals=0) :
  Calls Tryz.prog 37 #[.pointer (some ⟨tb,0,none⟩),v] w fun e w'=>e=.returned (.tuple #[.int .i64 (next:Int),.int .i64 0])/\St W w' tb (next+1) (A++[((next:Int),vals)]):=by
 have hl:vals.length<=1000000:=by
  unfold insE at hok;have h4:tShop.cols.length=4:=rfl;by_cases e:vals.length=tShop.cols.length
  ·omega
  rw[if_pos e] at hok;cases hok
 obtain⟨lab,h0,h2,h30⟩:=h;have h1:=h0.later hb;have h3:Below W.heap.size W w:=h30.trans (hb.mono h30.size);have hlt:=h0.lt
 refine (mU h1 (InV.of_row hr rfl) (fun b hb2=>Classical.byContradiction fun hn2=>by
  have:=(HRow.lt hr b hb2).1
  have:=hlt b hn2
  omega) hn (by decide) hs hl hok).mono ?_
 rintro e w' ⟨rfl,lab',k1,k2,k3⟩;exact⟨rfl,rB h2 h3 k1 k2 k3⟩
theorem aBq (h:St W w tb next A) (hn:next<65536):Calls Tryz.prog 37 #[.pointer (some ⟨tb,0,none⟩),.slice none 0 0] w fun e w'=>e=.returned (.tuple #[.int .i64 0,.int .i64 1])/\St W w' tb next A:=by
 obtain⟨lab,h1,h2,h3⟩:=h;refine (pI (S:=fun _=>False) (vals:=[]) h1 ⟨none,0,rfl,Nat.le_refl _,Nat.zero_le _,fun h=>absurd h (Nat.lt_irrefl _)⟩ hn (by decide) (fun x hx=>by cases hx) (Nat.zero_le _) (by decide)).mono ?_;rintro e w' ⟨rfl,hb⟩;exact⟨rfl,St.later ⟨lab,h1,h2,h3⟩ hb⟩
theorem aHf (h:St W w tb next A) {a:R1} (ha:a∈A) (hn:next<=800):Calls Tryz.prog 39 #[.pointer (some ⟨tb,0,none⟩),.int .i64 a.1] w fun e w'=>e=.returned (.bool true)/\St W w' tb next (without A a.1):=by
 obtain⟨lab,h1,h2,h3⟩:=h;refine (mV h1 ha hn (by decide)).mono ?_;rintro e w' ⟨rfl,lab',k1,k2,k3⟩;exact⟨rfl,rB h2 h3 k1 k2 k3⟩
theorem aHg (h:St W w tb next A) {a:R1} (ha:a∈A) (hn:next<=800) {y:ByteArray} {j:Nat} (hj:j<tShop.cols.length) (hy:ixC tShop.cols y=(j:Int)) (k n1:Int) (s:ByteArray) (hs:s.size<=maxLen) (hin:inC tShop.cols[j].kd (k,n1,s)=true) :
  Calls Tryz.prog 41 #[.pointer (some ⟨tb,0,none⟩),.int .i64 a.1,.string y,.agg #[.int .i64 (k),.int .i64 (n1),.string (s)]] w fun e w'=>e=.returned (.int .i64 0)/\St W w' tb next (setA A a.1 j (k,n1,s)):=by
 obtain⟨lab,h1,h2,h3⟩:=h;refine (mW h1 ha hn hj hy k n1 s hs hin).mono ?_;rintro e w' ⟨rfl,lab',k1,k2,k3⟩;exact⟨rfl,rB h2 h3 k1 k2 k3⟩
theorem aHh (h:St W w tb next A) {a:R1} (ha:a∈A):Calls Tryz.prog 84 #[.pointer (some ⟨tb,0,none⟩),.int .i64 a.1] w fun e w'=>∃ g c,e=.returned (.tuple #[.slice (some ⟨g,0,none⟩) 4 c,.bool true])/\HRow w' w.heap.size 32 3 (.slice (some ⟨g,0,none⟩) 4 c) 4 (cells3 a.2)/\Below w.heap.size w w':=by
 obtain⟨lab,h1,h2,h3⟩:=h;refine (fC h1 ha (by decide) (by decide)).mono ?_;rintro e w' ⟨g,c,rfl,_,k2,k3⟩;exact⟨g,c,rfl,k2,k3⟩
theorem aHi (h:St W w tb next A) {a:R1} (ha:a∈A) {y:ByteArray} {k:Nat} (hk:k<tShop.cols.length) (hy:ixC tShop.cols y=(k:Int)) {u:T3} (hu:a.2[k]?=some u) :
  Calls Tryz.prog 132 #[.pointer (some ⟨tb,0,none⟩),.int .i64 a.1,.string y] w fun e w'=>e=.returned (.tuple #[(Value.agg #[Value.int .i64 (u.1),Value.int .i64 (u.2.1),Value.string (u.2.2)]),.bool true])/\Below w.heap.size w w':=by
 obtain⟨lab,h1,h2,h3⟩:=h;exact iC h1 ha hk hy hu
theorem aFd (h:St W w tb next A) (hn:next<=590):Calls Tryz.prog 93 #[.pointer (some ⟨tb,0,none⟩)] w fun e w'=>∃ ob,e=.returned (Value.pointer (some ⟨ob,0,none⟩))/\St W w' ob next A/\Below w.heap.size w w':=by
 obtain⟨lab,h1,h2,h3⟩:=h;refine (zS h1 mY zT hn (by decide)).mono ?_;rintro e w' ⟨ob,lab',rfl,k1,k2,k3⟩;exact⟨ob,rfl,⟨lab',k1,fun b hb=>Nat.le_trans h3.size (k2 b hb),h3.trans (k3.mono h3.size)⟩,k3⟩
theorem rC (h:St W w tb next A):Calls Tryz.prog 30 #[.pointer (some ⟨tb,0,none⟩)] w fun e w'=>e=.returned (.int .i64 (next:Int))/\w'=w:=by
 obtain⟨lab,h1,h2,h3⟩:=h;exact qZ h1
theorem aFe (h:St W w tb next A):Calls Tryz.prog 52 #[.pointer (some ⟨tb,0,none⟩)] w fun e w'=>∃ p n c,e=.returned (.agg #[.slice p n c])/\Below w.heap.size w w' /\
  Calls Tryz.prog 53 #[.agg #[.slice p n c]] w' fun e w2=>e=.returned (.int .i64 (A.length:Int))/\Below w'.heap.size w' w2:=by
 obtain⟨lab,h1,h2,h3⟩:=h;refine (fD h1).mono ?_;rintro e w' ⟨p,n,c,rfl,hv,hb⟩;refine⟨p,n,c,rfl,hb,?_⟩;have hc:=aCC hv;obtain⟨l,_,k1,k2⟩:=hv;rw[<- k2.els k1,jG k1 k2 h1.srt,List.length_map] at hc;exact hc
theorem aCS (h:St W w tb next A) {x:ByteArray} {k:Nat} (hk:k<tShop.cols.length) (hx:ixC tShop.cols x=(k:Int)) (m:List (K 12)) (hm:m.Nodup) (hs:∀ s,s∈m↔∃ a∈A,∃ y,a.2[k]?=some y/\y.1=2/\wd y.2.2=s) :
  Calls Tryz.prog 82 #[.pointer (some ⟨tb,0,none⟩),.string x] w fun e w'=>e=.returned (.int .i64 (m.length:Int))/\Below w.heap.size w w':=by
 obtain⟨lab,h1,h2,h3⟩:=h;exact tF h1 hk hx m hm hs
theorem aFf (h:St W w tb next A):Calls Tryz.prog 159 #[.pointer (some ⟨tb,0,none⟩)] w fun e w'=>∃ p1 c1 p2 c2 ps,e=.returned (.agg #[.string tShop.nm,.slice p1 4 c1,.string tShop.key,.slice p2 1 c2])/\OwnT w' w.heap.size (.slice p1 4 c1) (.slice p2 1 c2) tShop ps/\Below w.heap.size w w':=by
 obtain⟨lab,h1,h2,h3⟩:=h;refine (aFc h1 mY).mono ?_;rintro e w' ⟨p1,c1,p2,c2,ps,rfl,k1,k2⟩;exact⟨p1,c1,p2,c2,ps,rfl,k1,k2⟩
end
