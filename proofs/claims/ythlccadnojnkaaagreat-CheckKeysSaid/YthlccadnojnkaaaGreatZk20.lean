import Derived.Test.YthlccadnojnkaaaGreatZk19
import Derived.WalkSpells
import Derived.Deep.CutBlock
import Derived.Deep.CutRange
import Derived.Maps.OwnIn
set_option maxHeartbeats 4000000
set_option maxRecDepth 100000
namespace Go.Proofs.YthlccadnojnkaaaGreat
open Go Go.RowKit Go.Proofs Co Co.S
def InV (S:Nat->Prop) (W:World) (v:Value) (l:List T3):Prop:=∃ p cap,v=.slice p l.length cap/\l.length<=cap/\cap<=maxLen/\(0<l.length->∃ b off,p=some ⟨b,off,none⟩/\b<W.heap.size/\S b/\∀ j u,(cells3 l)[j]?=some u->W.cell? ⟨b,off+j,none⟩=some u)
section
variable {S T1:Nat->Prop} {W W':World} {v:Value} {l:List T3}
theorem InV.tn (h:InV S W v l) (hk:Tn T1 W W') (hs:∀ b,S b->¬ T1 b):InV S W' v l:=by
 obtain⟨p,cap,h1,h2,h3,h4⟩:=h;refine⟨p,cap,h1,h2,h3,fun h0=>?_⟩;obtain⟨b,off,h5,h6,h7,h8⟩:=h4 h0;exact⟨b,off,h5,Nat.lt_of_lt_of_le h6 hk.size,h7,fun j u hj=>(World.cell?_of_block (w:=W) (hk.chg.block b h6 (hs b h7))).trans (h8 j u hj)⟩
theorem InV.later (h:InV S W v l) (hb:Below W.heap.size W W'):InV S W' v l:=h.tn (T1:=fun _=>False) (Tn.of_below hb) (fun _ _ h=>h)
theorem InV.mono (h:InV S W v l) (hs:∀ b,b<W.heap.size->S b->T1 b):InV T1 W v l:=by
 obtain⟨p,cap,h1,h2,h3,h4⟩:=h;refine⟨p,cap,h1,h2,h3,fun h0=>?_⟩;obtain⟨b,off,h5,h6,h7,h8⟩:=h4 h0;exact⟨b,off,h5,h6,hs b h6 h7,h8⟩
theorem InV.slice (h:InV S W v l):∃ p cap,v=.slice p l.length cap/\l.length<=cap/\cap<=maxLen:=by
 obtain⟨p,cap,h1,h2,h3,h4⟩:=h;exact⟨p,cap,h1,h2,h3⟩
theorem InV.val {p:Option Addr} {n cap j:Nat} (h:InV S W (.slice p n cap) l) (hj:j<l.length):∃ b off,p=some ⟨b,off,none⟩/\b<W.heap.size/\W.cell? ⟨b,off+j*3,none⟩=some (.int .i64 l[j].1)/\W.cell? ⟨b,off+j*3+1,none⟩=some (.int .i64 l[j].2.1)/\W.cell? ⟨b,off+j*3+2,none⟩=some (.string l[j].2.2):=by
 obtain⟨p',cap',h1,h2,h3,h4⟩:=h;cases h1;obtain⟨b,off,h5,h6,h7,h8⟩:=h4 (by omega);obtain⟨c0,c1,c2⟩:=dG l j hj;exact⟨b,off,h5,h6,h8 _ _ c0,h8 _ _ c1,h8 _ _ c2⟩
theorem InV.of_row {base:Nat} {n:Nat} (h:HRow W base 32 3 v n (cells3 l)) (hn:l.length=n):InV (fun b=>v.ownBlock=some b) W v l:=by
 subst hn;rcases h.2 with ⟨rfl,h0⟩ | ⟨g,cap,cur,rfl,_,hg,h1,h2,_,_⟩
 ·exact⟨none,0,by rw[h0],by omega,Nat.zero_le _,fun h=>by omega⟩
 exact⟨_,cap,rfl,h1,h2,fun _=>⟨g,0,rfl,aC hg,rfl,fun j u hj=>by rw[Nat.zero_add];exact h.cell hj⟩⟩
end
def updF {α:Type} (f:Nat->α) (k:Nat) (x:α):Nat->α:=fun j=>if j=k then x else f j
theorem bM {α:Type} (f:Nat->α) (k:Nat) (x:α):updF f k x k=x:=if_pos rfl
theorem bC {α:Type} (f:Nat->α) {k j:Nat} (x:α) (h:j≠k):updF f k x j=f j:=if_neg h
section
variable {W W':World} {tb next:Nat} {t:T} {i:In} {lab lab':Nat->Nat}
theorem TbR.relab (h:TbR W tb t next i lab) (he:∀ b,lab b≠0->lab' b=lab b) (hlt:∀ b,lab' b≠0->b<W.heap.size):TbR W tb t next i lab':=by
 have e:∀ b q,lab b=q->q≠0->lab' b=q:=(fun b q h1 h2=>by rw[he b (by rw[h1];exact h2),h1]);exact⟨h.form,h.cols,h.col,h.place,h.pm,h.free,h.gone,h.late,e _ _ h.l1 (by decide),fun b hb=>e _ _ (h.l2 b hb) (by decide),fun b hb=>e _ _ (h.l3 b hb) (by decide),fun b hb=>e _ _ (h.l4 b hb) (by decide),fun k hk=>e _ _ (h.l6 k hk) (by omega),fun k hk b hb=>e _ _ (h.l7 k hk b hb) (by omega),hlt⟩
def addL1 (lab:Nat->Nat) (o:Option Nat) (q:Nat):Nat->Nat:=fun b=>if o=some b then q else lab b
theorem gC {o:Option Nat} {q:Nat} (h:∀ b,o=some b->lab b=q∨W.heap.size<=b):Ext W lab (addL1 lab o q):=fun b hb=>by
 unfold addL1;split
 ·rename_i e;rcases h b e with h1|h1
  ·exact h1.symm
  ·omega
 ·rfl
theorem jE {o:Option Nat} {q:Nat} (h:∀ b,lab b≠0->b<W.heap.size) (he:Ext W lab (addL1 lab o q)):∀ b,lab b≠0->addL1 lab o q b=lab b:=fun b hb=>he b (h b hb)
theorem jF {o:Option Nat} {q:Nat} (h:∀ b,lab b≠0->b<W.heap.size) (hs:W.heap.size<=W'.heap.size) (ho:∀ b,o=some b->b<W'.heap.size):∀ b,addL1 lab o q b≠0->b<W'.heap.size:=fun b hb=>by
 unfold addL1 at hb;split at hb
 ·rename_i e;exact ho b e
 ·exact Nat.lt_of_lt_of_le (h b hb) hs
theorem gD {o:Option Nat} {q:Nat}:∀ b,o=some b->addL1 lab o q b=q:=fun _ hb=>if_pos hb
theorem TbM.setcol (h:TbM W tb t next i lab) {k:Nat} (hk:k<t.cols.length) {l':List T3} {v':Value} (hcol:Col (i.cb k) t.cols[k].kd l' v' W') (hchg:Chg (fun b=>b=i.cb k∨(i.v k).ownBlock=some b) W W') (hv:∀ q,v'.ownBlock=some q->(i.v k).ownBlock=some q∨W.heap.size<=q) :
  ∃ lab',TbM W' tb t next { i with cl:=updF i.cl k l',v:=updF i.v k v' } lab'/\Ext W lab lab'/\Tn (fun b=>lab b≠0) W W':=by
 have hty:=(h.col k hk).ty
 have htn:Tn (fun b=>b=i.cb k∨(i.v k).ownBlock=some b) W W':=Tn.of_chg hchg (fun b _ hb=>.inl (by
  rcases hb with rfl|hb
  ·exact hty.1
  exact hty.2 b hb))
 have hlab:∀ b,(b=i.cb k∨(i.v k).ownBlock=some b)->lab b=6+2*k∨lab b=7+2*k:=fun b hb=>by
  rcases hb with rfl|hb
  ·exact .inl (h.l6 k hk)
  exact .inr (h.l7 k hk b hb)
 have hne:∀ b q,lab b=q->q≠6+2*k->q≠7+2*k->¬ (b=i.cb k∨(i.v k).ownBlock=some b):=fun b q e h1 h2 hb=>by
  rcases hlab b hb with e2|e2
  ·exact h1 (by rw[<- e,e2])
  exact h2 (by rw[<- e,e2])
 have hkeep:∀ b q,lab b=q->q≠0->q≠6+2*k->q≠7+2*k->W'.heap[b]?=W.heap[b]?:=(fun b q e h0 h1 h2=>hchg.block b (h.lt b (by rw[e];exact h0)) (hne b q e h1 h2));have hext:Ext W lab (addL1 lab v'.ownBlock (7+2*k)):=gC (fun b hb=>(hv b hb).imp (h.l7 k hk b) id);have heq:=jE h.lt hext;have e:∀ b q,lab b=q->q≠0->addL1 lab v'.ownBlock (7+2*k) b=q:=fun b q h1 h2=>by rw[heq b (by rw[h1];exact h2),h1]
 refine⟨addL1 lab v'.ownBlock (7+2*k),⟨⟨h.form.tn htn,h.cols.tn htn rfl,fun j hj=>?_,h.place.of (fun b hb=>hkeep b 2 (h.l2 b hb) (by decide) (by omega) (by omega)),h.pm,h.free.of (fun b hb=>hkeep b 3 (h.l3 b hb) (by decide) (by omega) (by omega)),h.gone.tn htn,
  h.late.of (fun b hb=>hkeep b 4 (h.l4 b hb) (by decide) (by omega) (by omega)),e _ _ h.l1 (by decide),fun b hb=>e _ _ (h.l2 b hb) (by decide),fun b hb=>e _ _ (h.l3 b hb) (by decide),fun b hb=>e _ _ (h.l4 b hb) (by decide),fun j hj=>e _ _ (h.l6 j hj) (by omega),fun j hj b hb=>?_,jF h.lt hchg.size hcol.rlt⟩,(hkeep tb 1 h.l1 (by decide) (by omega) (by omega)).trans h.box⟩,hext,htn.mono (fun b _ hb=>by rcases hlab b hb with h1|h1 <;> omega)⟩
 ·show Col (i.cb j) t.cols[j].kd (updF i.cl k l' j) (updF i.v k v' j) W';by_cases ej:j=k
  ·subst ej;rw[bM,bM];exact hcol
  rw[bC _ _ ej,bC _ _ ej];exact (h.col j hj).tn htn (hne _ _ (h.l6 j hj) (by omega) (by omega)) (fun b hb=>hne _ _ (h.l7 j hj b hb) (by omega) (by omega))
 have hb:(updF i.v k v' j).ownBlock=some b:=hb;by_cases ej:j=k
 ·subst ej;rw[bM] at hb;exact gD b hb
 rw[bC _ _ ej] at hb;exact e _ _ (h.l7 j hj b hb) (by omega)
theorem TbM.setmap (h:TbM W tb t next i lab) (hn:i.np=0) (hf:∀ x,i.f x=none) :
  ∃ lab',TbM ((W.alloc (.map #[] 0)).setCell ⟨tb,5,none⟩ (.map (some W.heap.size))) tb t next { i with pv:=.map (some W.heap.size),m:=0 } lab'/\Ext W lab lab'/\Tn (fun b=>lab b≠0) W ((W.alloc (.map #[] 0)).setCell ⟨tb,5,none⟩ (.map (some W.heap.size))):=by
 have hb:=aD W (.map #[] 0);have h1:=h.later hb;have htn:=Tn.own h1 5 (.map (some W.heap.size));have hext:Ext W lab (addL1 lab (some W.heap.size) 2):=gC (fun b hb=>.inr (by cases hb;exact Nat.le_refl _));have heq:=jE h.lt hext;have h2:TbR ((W.alloc (.map #[] 0)).setCell ⟨tb,5,none⟩ (.map (some W.heap.size))) tb t next i (addL1 lab (some W.heap.size) 2):=(h1.toTbR.tn htn (fun b hb=>.inr hb)).relab heq (jF h.lt (by simp[World.setCell]) (fun b hb=>by cases hb;simp[World.setCell]));have hne:W.heap.size≠tb:=(by have:=h.tlt;omega);refine⟨_,⟨⟨h2.form,h2.cols,h2.col,?_,Nat.zero_le _,h2.free,h2.gone,h2.late,h2.l1,fun b hb=>?_,h2.l3,h2.l4,h2.l6,h2.l7,h2.lt⟩,heap_setCell_same _ tb 5 _ _ _ h1.box⟩,hext,(Tn.of_below hb).trans htn (S:=fun _=>False) (fun _ _ h=>h.elim) (fun b _ hb=>by show lab b≠0;rw[show lab b=1 from hb];decide)⟩
 ·refine .inr ⟨W.heap.size,rfl,?_⟩;show Mi _ W.heap.size i.f i.np 0;rw[hn,show i.f=fun _=>none from funext hf];exact (Mi.made W).of (heap_setCell_other _ ⟨tb,5,none⟩ _ _ hne)
 cases hb;exact gD _ rfl
theorem TbM.setfree (h:TbM W tb t next i lab) {g n c:Nat} {fr:List Nat} {p:Nat} (hfv:i.fv=.slice (some ⟨g,0,none⟩) n c) (hfr:i.free=fr++[p]) (hn:fr.length+1=n) :
  TbM (W.setCell ⟨tb,6,none⟩ (.slice (some ⟨g,0,none⟩) fr.length c)) tb t next { i with fv:=.slice (some ⟨g,0,none⟩) fr.length c,free:=fr } lab/\Tn (fun b=>lab b≠0) W (W.setCell ⟨tb,6,none⟩ (.slice (some ⟨g,0,none⟩) fr.length c)):=by
 have htn:=Tn.own h 6 (.slice (some ⟨g,0,none⟩) fr.length c);have h2:=h.toTbR.tn htn (fun b hb=>.inr hb);have hr:=h2.free;rw[hfv,hfr] at hr;refine⟨⟨⟨h2.form,h2.cols,h2.col,h2.place,h2.pm,?_,h2.gone,h2.late,h2.l1,h2.l2,fun b hb=>h2.l3 b (by rw[hfv];exact hb),h2.l4,h2.l6,h2.l7,h2.lt⟩,heap_setCell_same _ tb 6 _ _ _ h.box⟩,htn.mono (fun b _ hb=>by show lab b≠0;rw[show lab b=1 from hb];decide)⟩;have hlen:(fr++[p]).length=n:=(by simp;exact hn);rw[hlen] at hr;obtain⟨cur,h3,h4,h5,h6,h7,h8⟩:=hr.form;refine⟨by simp,.inr ⟨g,c,cur,rfl,Nat.zero_le _,h4,by show fr.length<=c;omega,h6,h7,?_⟩⟩;show cur.toList.take (fr.length*1)=fr.map ivn;have:cur.toList.take (fr.length*1)=(cur.toList.take (n*1)).take (fr.length*1):=(by rw[List.take_take];congr 1 <;> omega);rw[this,h8]
 simp
theorem TbM.setput (h:TbM W tb t next i lab) {b:Nat} (hpv:i.pv=.map (some b)) {x:Int} {p:Nat} (hx:F64 x) (hp:p<=1000000) (hf:i.f x=none) (hm:i.m+1<=next) (hn:next<=1000000) :
  ∃ w',(Instr.mapUpdate 114 (.map (some b)) (.int .i64 x) (.int .i64 (p:Int))).run Tryz.prog W=.ok () w'/\TbM w' tb t next { i with f:=upF i.f x p,np:=i.np+1,m:=i.m+1 } lab/\Tn (fun b=>lab b≠0) W w':=by
 have hmi:Mi W b i.f i.np i.m:=by
  rcases h.place with ⟨e,_⟩ | ⟨b',e,hm⟩
  ·rw[hpv] at e;cases e
  rw[hpv] at e;cases e;exact hm
 obtain⟨es,ck,hmap⟩:=hmi.isMap;obtain⟨w',hrun,hm',hg⟩:=hmi.put hx hp hf (by omega);have hlb:lab b=2:=h.l2 b (by rw[hpv];rfl);have htn:Tn (fun c=>c=b) W w':=Tn.of_chg ((Chg.refl (fun c=>c=b) W).grown hg (fun k hk _=>by cases hk;rfl)) (fun c _ hc=>.inr ⟨es,ck,by rw[hc];exact hmap⟩);have hne:∀ c q,lab c=q->q≠2->c≠b:=(fun c q e h2 e2=>h2 (by rw[<- e,e2];exact hlb));have hkeep:∀ c q,lab c=q->q≠0->q≠2->w'.heap[c]?=W.heap[c]?:=fun c q e h0 h1=>htn.chg.block c (h.lt c (by rw[e];exact h0)) (hne c q e h1)
 refine⟨w',hrun,⟨⟨h.form.tn htn,h.cols.tn htn rfl,fun j hj=>(h.col j hj).tn htn (hne _ _ (h.l6 j hj) (by omega)) (fun c hc=>hne _ _ (h.l7 j hj c hc) (by omega)),.inr ⟨b,hpv,hm'⟩,hm,h.free.of (fun c hc=>hkeep c 3 (h.l3 c hc) (by decide) (by decide)),h.gone.tn htn,
  h.late.of (fun c hc=>hkeep c 4 (h.l4 c hc) (by decide) (by decide)),h.l1,h.l2,h.l3,h.l4,h.l6,h.l7,fun c hc=>Nat.lt_of_lt_of_le (h.lt c hc) htn.size⟩,(hkeep tb 1 h.l1 (by decide) (by decide)).trans h.box⟩,htn.mono (fun c _ hc=>by show lab c≠0;rw[show c=b from hc,hlb];decide)⟩
end
def cOk (t:T) (vals:List T3) (k:Nat):Bool:=match t.cols[k]?,vals[k]? with
 | some c,some x=>inC c.kd x
 | _,_=>false
def okVals (t:T) (vals:List T3):Bool:=(List.range t.cols.length).all (cOk t vals)
theorem jY {n:Nat} {f:Nat->Bool} (h:∀ j,j<n->f j=true):(List.range n).all f=true:=by
 rw[List.all_eq_true];intro x hx;exact h x (List.mem_range.1 hx)
theorem aCO {n:Nat} {f:Nat->Bool} (j:Nat) (hj:j<n) (h:f j=false):(List.range n).all f=false:=by
 rw[List.all_eq_false];exact⟨j,List.mem_range.2 hj,by simp[h]⟩
theorem qY {t:T} {vals:List T3} {k:Nat} (hk:k<t.cols.length) (hv:k<vals.length):cOk t vals k=inC t.cols[k].kd vals[k]:=by
 unfold cOk;rw[List.getElem?_eq_getElem hk,List.getElem?_eq_getElem hv]
theorem aBj {t:T} {vals:List T3} (h:okVals t vals=true) {k:Nat} (hk:k<t.cols.length) (hv:k<vals.length):inC t.cols[k].kd vals[k]=true:=by
 rw[<- qY hk hv];exact List.all_eq_true.1 h k (List.mem_range.2 hk)
def mayE (t:T) (next:Nat) (vals:List T3):Int:=if next=65536 then 5 else if vals.length≠t.cols.length then 1 else if okVals t vals then 0 else 4
theorem bL {n b:Nat} {A x:World} (h:Below n A x) (hb:n<=b) (a c d:Value):Below n A (((x.setCell ⟨b,0,none⟩ a).setCell ⟨b,1,none⟩ c).setCell ⟨b,2,none⟩ d) :=
 ((h.setCell (p:=⟨b,0,none⟩) hb a).setCell (p:=⟨b,1,none⟩) hb c).setCell (p:=⟨b,2,none⟩) hb d
section
variable {W W':World} {tb next:Nat} {t:T} {i:In} {lab:Nat->Nat}
theorem tC {S:Nat->Prop} {vv:Value} {vals:List T3} (h:TbM W tb t next i lab) (hv:InV S W vv vals) (hn:next<=65536) (hc:t.cols.length<=1000) (hs:∀ x∈vals,x.2.2.size<=maxLen) (hl:vals.length<=1000000) :
  Calls Tryz.prog 69 #[.pointer (some ⟨tb,0,none⟩),vv] W fun e w'=>e=.returned (.int .i64 (mayE t next vals))/\Below W.heap.size W w':=by
 obtain⟨p,cap,rfl,hv1,hv2⟩:=hv.slice;obtain⟨pc,cc,hcv,hc1,hc2⟩:=h.cols.isslice;have c4:=h.cells.2.2.2.2.1;have c9:=h.cells.2.2.2.2.2.2.2.2.2;have zl:=h.tlt;rw[hcv] at c4;obtain⟨n,hn0⟩:∃ n,t.cols.length=n:=⟨_,rfl⟩;obtain⟨m,hm0⟩:∃ m,vals.length=m:=⟨_,rfl⟩;rw[hn0] at c4 hc;rw[hm0] at hv hv1 hl ⊢;unfold maxLen at hv2;have HH:=qAq (qBq h (qBq hv hs));have HN:=qAq (qBq hn0 hm0);unfold mayE;rw[hn0,hm0];by_cases h1:next=65536
 ·subst h1;rw[if_pos rfl];clear h hv hcv hn0 hm0 hc1 hc2 hs;go_enter Tryz.func69,Tryz.ntmps69;go_wp2_with fail;go_ret;exact⟨rfl,Below.refl _ _⟩
 rw[if_neg h1];have h1b:((next:Int)==65536)=false:=(by simp;omega);by_cases h2:m=n
 ·subst h2;rw[if_neg (fun h=>h rfl)];obtain⟨E,hE⟩:∃ E,(if okVals t vals=true then (0:Int) else 4)=E:=⟨_,rfl⟩;rw[hE];have HE:=qAq hE;clear hE;clear h hv hcv hn0 hm0 hc1 hc2 hs;go_enter Tryz.func69,Tryz.ntmps69;go_wp2_with fail;go_loopg [27] (m+1) (fun gh jv w=>∃ (j:Nat),jv=.int .i64 (j:Int)/\j<=m/\m+1<=j+gh/\(∀ k,k<j->cOk t vals k=true)/\Below W.heap.size W w)
  case atStart=>exact⟨0,rfl,Nat.zero_le _,by omega,fun k hk=>absurd hk (Nat.not_lt_zero k),Below.refl _ _⟩
  obtain⟨j,rfl,hj,hg,hok,hB⟩:=hrel;by_cases hlt:j<m
  ·have hvl:j<vals.length:=(by rw[HN.out.2];exact hlt);have hcl:j<t.cols.length:=(by rw[HN.out.1];exact hlt);obtain⟨b,off,rfl,hb,v0,v1,v2⟩:=(HH.out.2.1.later hB).val hvl;have hsz:=HH.out.2.2 _ (List.getElem_mem hvl);have hck:=qY hcl hvl;obtain⟨u,hu⟩:∃ u,vals[j]=u:=⟨_,rfl⟩;rw[hu] at v0 v1 v2 hsz hck;obtain⟨uk,un,us⟩:=u;simp only at v0 v1 v2 hsz;have hb2:=aD wr (.cells #[.int .i64 uk,.int .i64 un,.string us] 32);have hx2:=heap_alloc_new wr (.cells #[.int .i64 uk,.int .i64 un,.string us] 32);obtain⟨w2,hw2⟩:∃ w2,wr.alloc (.cells #[.int .i64 uk,.int .i64 un,.string us] 32)=w2:=⟨_,rfl⟩;rw[hw2] at hb2 hx2;have hcall:=gZ (HH.out.1.later (aB hB hb2)) j hcl uk un us hsz;rw[<- hck] at hcall;obtain⟨ok,hok2⟩:∃ ok,cOk t vals j=ok:=⟨_,rfl⟩;rw[hok2] at hcall;have HB:=qAq (qBq hok (aB hB hb2));have HW:=qAq hw2;have HO:=qAq hok2;have x0:=aA hx2 0;have x1:=aA hx2 1;have x2:=aA hx2 2;have xl:=aC hx2;have hji:(j:Int)<(m:Int):=(by omega);clear hok hB hb2 hx2 hw2 hck hu hok2 hsz hb;go_upto_region 10 with fail;rw[HW.out];cases ok with
   | true =>
    go_wp2_with (go_at_call 77;(with_reducible refine hcall.mono ?_);rintro e w3 ⟨rfl,hb3⟩;have H3:=qAq hb3;clear hb3);go_roundg (m-j)
    case measure=>omega
    case rel=>exact⟨j+1,by go_num,by omega,by omega,fun k hk=>by
     by_cases e:k=j
     ·rw[e];exact HO.out
     ·exact HB.out.1 k (by omega),aB HB.out.2 H3.out⟩
   | false =>
    go_wp2_with (go_at_call 77;(with_reducible refine hcall.mono ?_);rintro e w3 ⟨rfl,hb3⟩;have H3:=qAq hb3;clear hb3);go_ret;have hall:okVals t vals=false:=aCO j (by rw[HN.out.1];exact hlt) HO.out;have hE:=HE.out;rw[hall] at hE;rw[<- hE];exact⟨rfl,aB HB.out.2 H3.out⟩
  obtain rfl:j=m:=(by omega);have hall:okVals t vals=true:=jY (fun k hk=>hok k (by rw[HN.out.1] at hk;exact hk));have hE:=HE.out;rw[hall] at hE;have HB:=qAq (qBq hB hE);clear hok hB hall hE;go_wp2_with fail;go_ret;rw[<- HB.out.2];exact⟨rfl,HB.out.1⟩
 rw[if_pos h2];have h2b:((m:Int) != (n:Int))=true:=(by simp;omega);clear h hv hcv hn0 hm0 hc1 hc2 hs;go_enter Tryz.func69,Tryz.ntmps69;go_wp2_with fail;go_ret;exact⟨rfl,Below.refl _ _⟩
end
def putL (l:List T3) (p:Nat) (x:T3):List T3:=if p<l.length then l.set p x else l++[x]
def spot (i:In):Nat:=(i.free.getLast?).getD i.np
def PutI (W:World) (tb:Nat) (t:T) (next:Nat) (i:In) (lab:Nat->Nat) (id:Int) (at':Nat) (vals:List T3) (j:Nat) (w:World):Prop :=
 ∃ i2 lab2,TbM w tb t next i2 lab2/\i2.f=upF i.f id at'/\i2.np=i.np+1/\i2.free=i.free.dropLast/\i2.late=i.late/\i2.G=i.G/\(∀ k,k<t.cols.length->i2.cl k=if k<j then putL (i.cl k) at' (vals.getD k z3) else i.cl k)/\Ext W lab lab2/\Tn (fun b=>lab b≠0) W w/\i2.cv=i.cv/\i2.cb=i.cb/\i2.m<=i.m+1
section
variable {W W' w w':World} {tb next:Nat} {t:T} {i:In} {lab lab':Nat->Nat} {id:Int} {at' j:Nat} {vals:List T3}
theorem eE (h:Ext W lab lab'):∀ b,b<W.heap.size->lab' b≠0->lab b≠0:=fun b hb hn=>by rw[<- h b hb];exact hn
theorem PutI.tn2 (h:PutI W tb t next i lab id at' vals j w):Tn (fun b=>lab b≠0) W w:=by
 obtain⟨i2,lab2,h1,h2,h3,h4,h5,h6,h7,h8,h9,h10,h11,h12⟩:=h;exact h9
theorem PutI.ptr (h:PutI W tb t next i lab id at' vals j w) {g n c k:Nat} (hcv:i.cv=.slice (some ⟨g,0,none⟩) n c) (hk:k<t.cols.length):g<w.heap.size/\w.cell? ⟨g,k,none⟩=some (Value.pointer (some ⟨i.cb k,0,none⟩)):=by
 obtain⟨i2,lab2,h1,h2,h3,h4,h5,h6,h7,h8,h9,h10,h11,h12⟩:=h;obtain⟨g',c',e,_,_,k1,k2⟩:=h1.ptr hk;rw[h10,hcv] at e;cases e;rw[h11] at k2;exact⟨k1,k2⟩
theorem PutI.col (h:PutI W tb t next i lab id at' vals j w) (hj:j<t.cols.length) (hv:j<vals.length) (hin:inC t.cols[j].kd vals[j]=true) (hs:vals[j].2.2.size<=maxLen) (hl:(i.cl j).length+1<=900) (hat:at'<=(i.cl j).length) :
   (at'<(i.cl j).length->Calls Tryz.prog 73 #[.pointer (some ⟨i.cb j,0,none⟩),.int .i64 (at':Int),.agg #[.int .i64 (vals[j].1),.int .i64 (vals[j].2.1),.string (vals[j].2.2)]] w fun e w'=>e=.returned (.bool true)/\PutI W tb t next i lab id at' vals (j+1) w'/\Tn (fun b=>lab b≠0) W w') /\
   (at'=(i.cl j).length->Calls Tryz.prog 73 #[.pointer (some ⟨i.cb j,0,none⟩),.int .i64 (at':Int),.agg #[.int .i64 (vals[j].1),.int .i64 (vals[j].2.1),.string (vals[j].2.2)]] w fun e w'=>e=.returned (.bool false)/\Below w.heap.size w w') /\
   (at'=(i.cl j).length->∀ w2,Below w.heap.size w w2->Calls Tryz.prog 105 #[.pointer (some ⟨i.cb j,0,none⟩),.agg #[.int .i64 (vals[j].1),.int .i64 (vals[j].2.1),.string (vals[j].2.2)]] w2 fun e w'=>e=.returned (.bool true)/\PutI W tb t next i lab id at' vals (j+1) w'):=by
 obtain⟨i2,lab2,h1,h2,h3,h4,h5,h6,h7,h8,h9,h10,h11,h12⟩:=h;rw[<- h11];have hcl:i2.cl j=i.cl j:=(by rw[h7 j hj,if_neg (Nat.lt_irrefl j)]);have hgd:vals.getD j z3=vals[j]:=by rw[List.getD_eq_getElem?_getD,List.getElem?_eq_getElem hv];rfl
 have hfin:∀ (W1 w':World) (l':List T3) (v':Value),TbM W1 tb t next i2 lab2->Tn (fun b=>lab b≠0) W W1->l'=putL (i.cl j) at' vals[j]->Col (i2.cb j) t.cols[j].kd l' v' w'->Chg (fun b=>b=i2.cb j∨(i2.v j).ownBlock=some b) W1 w'->(∀ q,v'.ownBlock=some q->(i2.v j).ownBlock=some q∨W1.heap.size<=q)->PutI W tb t next i lab id at' vals (j+1) w':=by
  intro W1 w' l' v' hT hTn hl' hcol hchg hown;obtain⟨lab3,k1,k2,k3⟩:=hT.setcol hj hcol hchg hown;refine⟨_,lab3,k1,h2,h3,h4,h5,h6,fun k hk=>?_,h8.trans hTn.size k2,hTn.trans k3 (fun _ _ h=>h) (eE h8),h10,h11,h12⟩;show updF i2.cl j l' k=_;by_cases e:k=j
  ·subst e;rw[bM,hl',if_pos (Nat.lt_succ_self k),hgd]
  rw[bC _ _ e,h7 k hk];by_cases e2:k<j
  ·rw[if_pos e2,if_pos (by omega)]
  rw[if_neg e2,if_neg (by omega)]
 have hcol:=h1.col j hj;rw[hcl] at hcol;refine⟨fun hlt=>?_,fun heq=>?_,fun heq w2 hb2=>?_⟩
 ·refine (qQ hcol (by omega) at' hlt vals[j] hs hin).mono ?_;rintro e w' ⟨rfl,k1,k2⟩;have hP:=hfin w w' _ _ h1 h9 (by unfold putL;rw[if_pos hlt]) k1 k2 (fun q hq=>.inl hq);have hP2:=hP;obtain⟨_,_,_,_,_,_,_,_,_,_,h10,_⟩:=hP2;exact⟨rfl,hP,h10⟩
 ·exact wP hcol at' vals[j] hs (.inl (by omega))
 refine (aEQ (hcol.later hb2) (by omega) vals[j] hs hin).mono ?_;rintro e w' ⟨rfl,v',k1,k2,k3⟩;refine⟨rfl,hfin w2 w' _ _ (h1.later hb2) (h9.trans (Tn.of_below (S:=fun _=>False) hb2) (fun _ _ h=>h) (fun _ _ h=>h.elim)) (by unfold putL;rw[if_neg (by omega)]) k1 k3 k2⟩
theorem tD {S:Nat->Prop} {vv:Value} (h:TbM W tb t next i lab) (hid:F64 id) (hf:i.f id=none) (hv:InV S W vv vals) (hS:∀ b,S b->lab b=0) (hlen:vals.length=t.cols.length) (hok:okVals t vals=true) (hs:∀ x∈vals,x.2.2.size<=maxLen)
  (hnp:i.np<=800) (hfl:i.free.length<=800) (hfb:∀ p∈i.free,p<=800) (hcl:∀ k,k<t.cols.length->(i.cl k).length+1<=900/\spot i<=(i.cl k).length) (hm:i.m+1<=next) (hnx:next<=65536) :
  Calls Tryz.prog 70 #[.pointer (some ⟨tb,0,none⟩),.int .i64 id,vv] W fun e w'=>e=.returned (.tuple #[])/\PutI W tb t next i lab id (spot i) vals t.cols.length w':=by
 obtain⟨p,cap,rfl,hv1,hv2⟩:=hv.slice;obtain⟨n,hn⟩:∃ n,t.cols.length=n:=⟨_,rfl⟩;obtain⟨sp,hsp⟩:∃ sp,spot i=sp:=⟨_,rfl⟩;have HSP:=qAq hsp;have zl:=h.tlt;have hpl:=h.place;have c5:=h.cells.2.2.2.2.2.1
 obtain⟨r,hr⟩:∃ r,i.pv=.map r:=by
  rcases hpl with ⟨e,_⟩ | ⟨b,e,_⟩
  ·exact⟨_,e⟩
  exact⟨_,e⟩
 rw[hr] at c5;have heq:=(fun w=>run_eql_map_nil (P:=Tryz.prog) w 114 3 3 r Tryz.underlying114);obtain⟨nb,hnb⟩:∃ nb,r.isNone=nb:=⟨_,rfl⟩
 try rw[hnb] at heq
 have f5:=h.fz 5;have hnf:=(fun x=>(show i.f x=none->True from fun _=>trivial));have HH:=qAq (qBq h (qBq hv (qBq hS hs)));have HN:=qAq (qBq hn (qBq hlen (qBq hok hf)));have HB:=qAq (qBq hnp (qBq hfl (qBq hfb (qBq hcl (qBq hm hnx)))));rw[hlen,hn] at hv1;rw[hlen,hn,hsp];unfold maxLen at hv2;clear hsp;clear h hv hS hs hlen hok hf hnp hfl hfb hcl hm hnf;go_enter Tryz.func70,Tryz.ntmps70
 go_upto_if 14 with fail
 go_cut [] from 15 to 18 (fun w=>∃ b m1 lab1,TbM w tb t next { i with pv:=.map (some b),m:=m1 } lab1/\m1<=i.m/\Ext W lab lab1/\Tn (fun b=>lab b≠0) W w)
 case first =>
  cases nb with
  | true =>
   have hr0:r=none:=Option.isNone_iff_eq_none.1 hnb;subst hr0;rcases hpl with ⟨hpv,hnp0,hfn⟩ | ⟨b,hpv,hmi⟩
   ·obtain⟨lab1,k1,k2,k3⟩:=HH.out.1.setmap hnp0 hfn;have ecomm:=World.setCell_alloc_past (w:=W) (.map #[] 0) tb 5 (.map (some W.heap.size)) zl;rw[ecomm] at k1 k3;have HK:=qAq (qBq k1 (qBq k2 k3));clear k1 k2 k3 hfn ecomm;have hmm:=@run_makeMap Tryz.prog;go_wp2_with fail;go_meet;exact⟨_,0,lab1,HK.out.1,Nat.zero_le _,HK.out.2.1,HK.out.2.2⟩
   ·rw[hr] at hpv;cases hpv
  | false =>
   rcases hpl with ⟨hpv,_⟩ | ⟨b,hpv,hmi⟩
   ·rw[hr] at hpv;cases hpv;cases hnb
   ·clear hmi;have HP:=qAq hpv;clear hpv hr;go_wp2_with fail;go_meet;exact⟨b,i.m,lab,by rw[<- HP.out];exact HH.out.1,Nat.le_refl _,Ext.refl _ _,Tn.refl _ _⟩
 obtain⟨b,m1,lab1,k1,k2,k3,k4⟩:=hcut;have K:=qAq (qBq k1 (qBq k2 (qBq k3 k4)));clear c5 heq hr f5 hnb zl;have zl:=k1.tlt;have c5:=k1.cells.2.2.2.2.2.1;have c6:=k1.cells.2.2.2.2.2.2.1;have f6:=k1.fz 6;have hml:=k1.place.len 3;have hfr:=k1.free;simp only at c5 c6 hml hfr;obtain⟨pf,cf,hfv,hf1,hf2⟩:=hfr.isslice;rw[hfv] at c6 hfr;unfold maxLen at hf2;have hnp:=HB.out.1;have hfl:=HB.out.2.1;obtain⟨nf,hnf⟩:∃ nf,i.free.length=nf:=⟨_,rfl⟩;rw[hnf] at c6 hfr hf1 hfl;have HFV:=qAq (qBq hfv hnf);clear hnf;obtain⟨np,hnp0⟩:∃ np,i.np=np:=⟨_,rfl⟩;rw[hnp0] at hml hnp;have HNP:=qAq hnp0;clear k1 k2 k3 k4 hfv
 go_upto_if 31 with (at_len;refine sX rfl (.tmp 28) 114 rfl rfl hml ?_)
 go_cut [6,7] from 23 to 47 (fun _ av w=>av=.int .i64 (sp:Int)/\∃ fv,TbM w tb t next { i with pv:=.map (some b),m:=m1,fv:=fv,free:=i.free.dropLast } lab1/\Tn (fun b=>lab b≠0) W w)
 case first =>
  by_cases hz:nf=0
  ·have hfe:i.free=[]:=List.eq_nil_of_length_eq_zero (by rw[HFV.out.2];exact hz);have hspe:sp=np:=(by rw[<- HSP.out,<- HNP.out];unfold spot;rw[hfe];rfl);have hzi:¬ (1:Int)<=(nf:Int):=(by omega);have HZ:=qAq (qBq hfe hspe);clear hfe hspe hz hfr c5 c6 hml hnp0;go_wp2_with fail;go_meet;refine⟨by rw[HZ.out.2],i.fv,?_,K.out.2.2.2⟩
   have:=K.out.1
   rw[show i.free.dropLast=i.free by rw[HZ.out.1];rfl];exact this
  obtain⟨fr,p0,hfe⟩:∃ fr p0,i.free=fr++[p0]:=by
   rcases List.eq_nil_or_concat i.free with h0|⟨fr,p0,h0⟩
   ·rw[<- HFV.out.2,h0] at hz;exact absurd rfl hz
   exact⟨fr,p0,by rw[h0];simp⟩
  obtain⟨q,hq⟩:∃ q,fr.length=q:=⟨_,rfl⟩;have hnq:nf=q+1:=(by rw[<- HFV.out.2,hfe,<- hq];simp);have hspe:sp=p0:=(by rw[<- HSP.out];unfold spot;rw[hfe];simp);have hp0:p0<=800:=HB.out.2.2.1 p0 (by rw[hfe];simp);obtain⟨g,cf',hsl,_,_⟩:=hfr.slice (by omega);cases hsl
  have hcell:wc.cell? ⟨g,q,none⟩=some (.int .i64 (sp:Int)):=by
   rw[hspe];exact hfr.cell (by rw[hfe,List.getElem?_map,List.getElem?_append_right (by omega),hq];simp)
  have hgl:=(hfr.lt g rfl).2;have hset:=K.out.1.setfree (g:=g) (n:=nf) (c:=cf) (fr:=fr) (p:=p0) (by rw[<- HFV.out.2];exact HFV.out.1) hfe (by rw[hq];exact hnq.symm);rw[hq] at hset;have HZ:=qAq (qBq hset (qBq hfe hq));clear hset hfe hq hz hfr hspe hml hnp0;subst hnq;have e6:((q+1:Nat):Int)-1=(q:Int):=(by omega);go_wp2_with fail;go_meet;refine⟨rfl,.slice (some ⟨g,0,none⟩) q cf,?_,K.out.2.2.2.trans HZ.out.1.2 (fun _ _ h=>h) (eE K.out.2.2.1)⟩
  have:=HZ.out.1.1
  rw[show i.free.dropLast=fr by rw[HZ.out.2.1];simp];exact this
 obtain⟨rfl,fv,q1,q2⟩:=hcut
 have hspb:sp<=800:=by
  rw[<- HSP.out];unfold spot;cases hg:i.free.getLast? with
  | none=>exact HB.out.1
  | some q=>exact HB.out.2.2.1 q (List.mem_of_getLast? hg)
 obtain⟨w3,hrun,r1,r2⟩:=q1.setput rfl (p:=sp) hid (by omega) HN.out.2.2.2 (by have:=HB.out.2.2.2.2.1;have:=K.out.2.1;show m1+1<=next;omega) (by have:=HB.out.2.2.2.2.2;omega);have hPut:PutI W tb t next i lab id sp vals 0 w3:=⟨_,lab1,r1,rfl,rfl,rfl,rfl,rfl,fun k hk=>by rw[if_neg (Nat.not_lt_zero k)],K.out.2.2.1,q2.trans r2 (fun _ _ h=>h) (eE K.out.2.2.1),rfl,rfl,by have:=K.out.2.1;show m1+1<=i.m+1;omega⟩;have d4:=r1.cells.2.2.2.2.1;have d5:=q1.cells.2.2.2.2.2.1;have dl:=q1.tlt;have dl3:=r1.tlt;simp only at d4 d5;obtain⟨pc,cc,hcv,hc1,hc2⟩:=r1.cols.isslice;simp only at hcv;rw[HN.out.1] at hcv hc1;rw[hcv] at d4;have HP:=qAq (qBq hPut hcv);unfold maxLen at hc2;clear q1 q2 r1 r2 hPut hcv c5 c6 f6 hml hfr hnp0 zl;go_wp2_with (at_mapUpdate;refine fA rfl (.tmp 51) (.tmp 52) (.tmp 53) 114 rfl rfl rfl rfl hrun ?_);go_loopg [59] (n+1) (fun gh jv w=>∃ (j:Nat),jv=.int .i64 (j:Int)/\j<=n/\n+1<=j+gh/\PutI W tb t next i lab id sp vals j w)
 case atStart=>exact⟨0,rfl,Nat.zero_le _,by omega,HP.out.1⟩
 obtain⟨j,rfl,hj,hg,hPj⟩:=hrel;by_cases hlt:j<n
 ·have hjc:j<t.cols.length:=(by rw[HN.out.1];exact hlt);have hjv:j<vals.length:=(by rw[HN.out.2.1];exact hjc);have hin:=aBj HN.out.2.2.1 hjc hjv;have hsz:=HH.out.2.2.2 _ (List.getElem_mem hjv);have hb4:=HB.out.2.2.2.1 j hjc;rw[HSP.out] at hb4;obtain⟨kSet,kNo,kApp⟩:=hPj.col hjc hjv hin hsz hb4.1 hb4.2
  obtain⟨gc,cc',hcs,_,_⟩:∃ gc cc',Value.slice pc n cc=.slice (some ⟨gc,0,none⟩) n cc'/\n<=cc'/\cc'<=maxLen:=by
   have hPj2:=hPj;obtain⟨i2,lab2,h1,_,_,_,_,_,_,_,_,h10,_⟩:=hPj2;obtain⟨g',c',e,e1,e2,k1,k2⟩:=h1.ptr hjc;rw[h10,HP.out.2,HN.out.1] at e;exact⟨g',c',e,by rw[<- HN.out.1];exact e1,e2⟩
  cases hcs;obtain⟨gl,gp⟩:=hPj.ptr HP.out.2 hjc
  have hInV:InV S wr (.slice p n cap) vals:=by
   have:=HH.out.2.1.tn hPj.tn2 (fun b hb hn=>hn (HH.out.2.2.1 b hb))
   rw[HN.out.2.1,HN.out.1] at this;exact this
  obtain⟨bv,ov,rfl,bl,v0,v1,v2⟩:=hInV.val hjv;obtain⟨u,hu⟩:∃ u,vals[j]=u:=⟨_,rfl⟩;rw[hu] at v0 v1 v2 kSet kNo kApp;obtain⟨uk,un,us⟩:=u;simp only at v0 v1 v2 kSet kNo kApp;have hji:(j:Int)<(n:Int):=(by omega);obtain⟨cb,hcb⟩:∃ cb,i.cb j=cb:=⟨_,rfl⟩;rw[hcb] at gp kSet kNo kApp;have HV:Hid (∀ w',Below wr.heap.size wr w'->bv<w'.heap.size/\w'.cell? ⟨bv,ov+j*3,none⟩=some (.int .i64 uk)/\w'.cell? ⟨bv,ov+j*3+1,none⟩=some (.int .i64 un)/\w'.cell? ⟨bv,ov+j*3+2,none⟩=some (.string us)):=qAq (fun w' hb=>⟨Nat.lt_of_lt_of_le bl hb.size,(World.cell?_of_block (w:=wr) (hb.block bv bl)).trans v0,(World.cell?_of_block (w:=wr) (hb.block bv bl)).trans v1,(World.cell?_of_block (w:=wr) (hb.block bv bl)).trans v2⟩);by_cases hat:sp<(i.cl j).length
  ·have kS:=kSet hat;clear kSet kNo kApp hPj hInV hin hsz hb4 hu hcb;go_wp2_with (go_at_call 73;(with_reducible refine kS.mono ?_);rintro e w4 ⟨rfl,hP4,_⟩;have H4:=qAq hP4;clear hP4 kS);go_roundg (n-j)
   case measure=>omega
   exact⟨j+1,by go_num,by omega,by omega,H4.out⟩
  have heq:sp=(i.cl j).length:=(by have:=hb4.2;omega);have kN:=kNo heq;have kA:=kApp heq;clear kSet kNo kApp hPj hInV hin hsz hb4 hu hcb heq hat
  go_wp2_with (first
   | (go_at_call 73;(with_reducible refine kN.mono ?_);rintro e w4 ⟨rfl,hb4⟩;have kA4:=kA w4 hb4;obtain⟨y3,y0,y1,y2⟩:=HV.out w4 hb4;clear kA kN hb4)
   | (go_at_call 105;(with_reducible refine kA4.mono ?_);rintro e w5 ⟨rfl,hP5⟩;have H5:=qAq hP5;clear hP5 kA4))
  go_roundg (n-j)
  case measure=>omega
  exact⟨j+1,by go_num,by omega,by omega,H5.out⟩
 obtain rfl:j=n:=(by omega);have HF:=qAq hPj;clear hPj;go_wp2_with fail
 go_end0
 exact⟨rfl,HF.out⟩
end
def Tb (W:World) (tb:Nat) (t:T) (next:Nat) (A:List R1) (lab:Nat->Nat):Prop:=∃ i,TbM W tb t next i lab/\Inv t.cols.length next i A
section
variable {W W':World} {tb next:Nat} {t:T} {A:List R1} {lab:Nat->Nat}
theorem Tb.tn {S:Nat->Prop} (h:Tb W tb t next A lab) (hk:Tn S W W') (hs:∀ b,S b->lab b=0):Tb W' tb t next A lab:=by
 obtain⟨i,h1,h2⟩:=h;exact⟨i,h1.tn hk hs,h2⟩
theorem Tb.later (h:Tb W tb t next A lab) (hb:Below W.heap.size W W'):Tb W' tb t next A lab:=by
 obtain⟨i,h1,h2⟩:=h;exact⟨i,h1.later hb,h2⟩
theorem Tb.lt (h:Tb W tb t next A lab):∀ b,lab b≠0->b<W.heap.size:=by
 obtain⟨i,h1,h2⟩:=h;exact h1.lt
end
section
variable {W W':World} {tb next:Nat} {t:T} {i:In} {A:List R1} {lab:Nat->Nat}
theorem TbM.setnext (h:TbM W tb t next i lab):TbM (W.setCell ⟨tb,9,none⟩ (.int .i64 ((next:Int)+1))) tb t (next+1) i lab/\Tn (fun b=>lab b≠0) W (W.setCell ⟨tb,9,none⟩ (.int .i64 ((next:Int)+1))):=by
 have htn:=Tn.own h 9 (.int .i64 ((next:Int)+1));have h2:=h.toTbR.tn htn (fun b hb=>.inr hb);exact⟨⟨⟨h2.form,h2.cols,h2.col,h2.place,Nat.le_succ_of_le h2.pm,h2.free,h2.gone,h2.late,h2.l1,h2.l2,h2.l3,h2.l4,h2.l6,h2.l7,h2.lt⟩,heap_setCell_same _ tb 9 _ _ _ h.box⟩,htn.mono (fun b _ hb=>by show lab b≠0;rw[show lab b=1 from hb];decide)⟩
theorem Inv.free_le {n:Nat} (h:Inv n next i A):∀ p∈i.free,p<=A.length+i.free.length:=fun p hp=>Nat.le_of_lt (h.fre p hp).1
theorem PutI.inv {n:Nat} {W0 w:World} {nx:Nat} {vals:List T3} (hn:t.cols.length=n) (h:Inv n next i A) (hv:vals.length=n) (hnx:next+1<=65536) (hP:PutI W0 tb t nx i lab (next:Int) (spot i) vals n w) :
  ∃ i2 lab2,TbM w tb t nx i2 lab2/\Inv n (next+1) i2 (A++[((next:Int),vals)])/\Ext W0 lab lab2/\Tn (fun b=>lab b≠0) W0 w:=by
 obtain⟨i2,lab2,h1,h2,h3,h4,h5,h6,h7,h8,h9,h10,h11⟩:=hP;rw[hn] at h7;refine⟨i2,lab2,h1,?_,h8,h9⟩;have hgd:∀ k,k<n->some (vals.getD k z3)=vals[k]?:=(fun k hk=>by rw[List.getD_eq_getElem?_getD,List.getElem?_eq_getElem (by omega)];rfl);rcases List.eq_nil_or_concat i.free with h0|⟨fr,p,h0⟩
 ·have hs:spot i=A.length:=(by unfold spot;rw[h0,<- h.np];rfl);rw[hs] at h2 h7;have hlen:=h.lens;have hfe:i2.free=[]:=(by rw[h4,h0];rfl);rw[h0] at hlen;simp only[List.length_nil,Nat.add_zero] at hlen
  have hcl:∀ k,k<n->i2.cl k=i.cl k++[vals.getD k z3]:=fun k hk=>by
   rw[h7 k hk,if_pos hk];unfold putL;rw[if_neg (by rw[hlen k hk];omega)]
  refine h.ins (p:=A.length) hv hnx h3 h2 h5 h6 (fun x hx=>?_) (fun q=>by rw[hfe,h0];simp) (by rw[hfe];exact List.nodup_nil) (fun q=>by rw[hfe,h0];simp;omega) (by rw[hfe];have:=h.few;simp;omega) (fun k hk=>?_) (fun k hk=>?_) (fun k hk q hq=>?_)
  ·obtain⟨a,_,_,hb,_⟩:=h.atP hx;rw[h0] at hb;simp at hb
  ·rw[hcl k hk,hfe,List.length_append,hlen k hk];rfl
  ·rw[hcl k hk,List.getElem?_append_right (by rw[hlen k hk];exact Nat.le_refl _),hlen k hk,<- hgd k hk]
   simp
  rw[hcl k hk];rcases Nat.lt_or_ge q A.length with h1|h1
  ·rw[List.getElem?_append_left (by rw[hlen k hk];exact h1)]
  rw[List.getElem?_eq_none (by rw[List.length_append,hlen k hk];simp;omega),List.getElem?_eq_none (by rw[hlen k hk];exact h1)]
 have h0:i.free=fr++[p]:=(by rw[h0];simp);have hs:spot i=p:=(by unfold spot;rw[h0];simp);rw[hs] at h2 h7;have hfe:i2.free=fr:=(by rw[h4,h0];simp);have hpm:p∈i.free:=(by rw[h0];simp);obtain⟨hp1,hp2,hp3⟩:=h.fre p hpm;have hnd:=h.fnd;rw[h0,List.nodup_append] at hnd;have hpf:p ∉ fr:=(fun hm=>hnd.2.2 p hm p (by simp) rfl);have hfl:i.free.length=fr.length+1:=by rw[h0];simp
 have hcl:∀ k,k<n->i2.cl k=(i.cl k).set p (vals.getD k z3):=fun k hk=>by
  rw[h7 k hk,if_pos hk];unfold putL;rw[if_pos (by rw[h.lens k hk];exact hp1)]
 refine h.ins (p:=p) hv hnx h3 h2 h5 h6 hp2 (fun q=>?_) (by rw[hfe];exact hnd.1) (fun q=>by rw[hfe,hfl];constructor <;> omega) (by rw[hfe];have:=h.few;omega) (fun k hk=>?_) (fun k hk=>?_) (fun k hk q hq=>?_)
 ·rw[hfe,h0];constructor
  ·intro hq;exact⟨by simp[hq],fun e=>hpf (e▸hq)⟩
  rintro ⟨hq,hne⟩;rcases List.mem_append.1 hq with hq|hq
  ·exact hq
  exact absurd (List.mem_singleton.1 hq) hne
 ·rw[hcl k hk,List.length_set,h.lens k hk,hfe,hfl];omega
 ·rw[hcl k hk,List.getElem?_set_self (by rw[h.lens k hk];exact hp1),hgd k hk]
 rw[hcl k hk,List.getElem?_set_ne (fun e=>hq e.symm)]
def insE (t:T) (vals:List T3):Int:=if vals.length≠t.cols.length then 1 else if okVals t vals then 0 else 4
theorem zR {vals:List T3} (h:next≠65536):mayE t next vals=insE t vals:=if_neg h
theorem pI {S:Nat->Prop} {vv:Value} {vals:List T3} (h:Tb W tb t next A lab) (hv:InV S W vv vals) (hn:next<65536) (hc:t.cols.length<=1000) (hs:∀ x∈vals,x.2.2.size<=maxLen) (hl:vals.length<=1000000) (hno:insE t vals≠0) :
  Calls Tryz.prog 37 #[.pointer (some ⟨tb,0,none⟩),vv] W fun e w'=>e=.returned (.tuple #[.int .i64 0,.int .i64 (insE t vals)])/\Below W.heap.size W w':=by
 obtain⟨i,h1,h2⟩:=h;have hm:=tC h1 hv (by omega) hc hs hl;rw[zR (by omega)] at hm;generalize insE t vals=E at hm hno ⊢;have hne:(E != 0)=true:=(by simp[hno]);clear h1 h2 hv hs hl;go_enter Tryz.func37,Tryz.ntmps37;go_wp2_with (go_at_call 69;(with_reducible refine hm.mono ?_);rintro e w2 ⟨rfl,hb⟩);go_ret2;exact⟨rfl,hb⟩
theorem mU {S:Nat->Prop} {vv:Value} {vals:List T3} (h:Tb W tb t next A lab) (hv:InV S W vv vals) (hS:∀ b,S b->lab b=0) (hn:next<=590) (hc:t.cols.length<=1000) (hs:∀ x∈vals,x.2.2.size<=maxLen) (hl:vals.length<=1000000) (hyes:insE t vals=0) :
  Calls Tryz.prog 37 #[.pointer (some ⟨tb,0,none⟩),vv] W fun e w'=>e=.returned (.tuple #[.int .i64 (next:Int),.int .i64 0])/\∃ lab',Tb w' tb t (next+1) (A++[((next:Int),vals)]) lab'/\Ext W lab lab'/\Tn (fun b=>lab b≠0) W w':=by
 obtain⟨i,h1,h2⟩:=h;have hm:=tC h1 hv (by omega) hc hs hl;rw[zR (by omega),hyes] at hm
 have hlen:vals.length=t.cols.length:=by
  unfold insE at hyes;by_cases e:vals.length=t.cols.length
  ·exact e
  rw[if_pos e] at hyes;cases hyes
 have hok:okVals t vals=true:=by
  unfold insE at hyes;rw[if_neg (fun h=>h hlen)] at hyes;by_cases e:okVals t vals=true
  ·exact e
  rw[if_neg e] at hyes;cases hyes
 have HX:Hid (∀ w,Below W.heap.size W w->w.cell? ⟨tb,9,none⟩=some (.int .i64 (next:Int))/\tb<w.heap.size/\w.frozen? ⟨tb,9,none⟩=false/\Calls Tryz.prog 70 #[.pointer (some ⟨tb,0,none⟩),.int .i64 (next:Int),vv] (w.setCell ⟨tb,9,none⟩ (.int .i64 ((next:Int)+1))) fun e w'=>e=.returned (.tuple #[])/\∃ lab',Tb w' tb t (next+1) (A++[((next:Int),vals)]) lab'/\Ext W lab lab'/\Tn (fun b=>lab b≠0) W w'):=qAq (fun w hw=>by
  have h3:=h1.later hw;obtain⟨k1,k2⟩:=h3.setnext;have hfew:=h2.few;have hnf:i.f (next:Int)=none:=h2.no _ (fun a ha e=>by have:=(h2.rng a ha).2;omega);have hv2:=(hv.later hw).tn k2 (fun b hb hn=>hn (hS b hb))
  have hsp:∀ k,k<t.cols.length->(i.cl k).length+1<=900/\spot i<=(i.cl k).length:=fun k hk=>by
   rw[h2.lens k hk];refine⟨by omega,?_⟩;unfold spot;cases hg:i.free.getLast? with
   | none=>show i.np<=_;rw[h2.np];omega
   | some q=>exact h2.free_le q (List.mem_of_getLast? hg)
  refine⟨h3.cells.2.2.2.2.2.2.2.2.2,h3.tlt,h3.fz 9,(tD k1 (id:=(next:Int)) (by constructor <;> omega) hnf hv2 hS hlen hok hs (by rw[h2.np];omega) (by omega) (fun p hp=>by have:=h2.free_le p hp;omega) hsp (by have:=k1.pm;have:=h3.pm;omega) (by omega)).mono ?_⟩;rintro e w' ⟨rfl,hP⟩;obtain⟨i2,lab2,j1,j2,j3,j4⟩:=PutI.inv rfl h2 hlen (by omega) hP;exact⟨rfl,lab2,⟨i2,j1,j2⟩,fun b hb=>j3 b (Nat.lt_of_lt_of_le hb (Nat.le_trans hw.size k2.size)),((Tn.of_below (S:=fun _=>False) hw).trans k2 (fun _ _ h=>h.elim) (fun _ _ h=>h)).trans j4 (fun _ _ h=>h) (fun _ _ h=>h)⟩)
 have hwr:IntKind.i64.wrap ((next:Int)+1)=(next:Int)+1:=(by rw[IntKind.wrap_i64];omega);clear h1 h2 hv hS hs hl hyes hlen hok;go_enter Tryz.func37,Tryz.ntmps37
 go_wp2_with (first
  | (go_at_call 69;(with_reducible refine hm.mono ?_);rintro e w2 ⟨rfl,hb⟩;obtain⟨c9,zl,f9,hput⟩:=HX.out w2 hb;clear hm hb)
  | (go_at_call 70;(with_reducible refine hput.mono ?_);rintro e w3 ⟨rfl,hT⟩;have H3:=qAq hT;clear hT hput))
 go_ret2;exact⟨rfl,H3.out⟩
end
theorem aGZ (kind:Int):inC kind z3=true:=by simp[inC,mayV]
def DelI (W:World) (tb:Nat) (t:T) (next:Nat) (i:In) (lab:Nat->Nat) (p j:Nat) (w:World):Prop :=
 ∃ cl lab2,TbM w tb t next { i with cl:=cl } lab2/\(∀ k,k<t.cols.length->cl k=if k<j then (i.cl k).set p z3 else i.cl k)/\Ext W lab lab2/\Tn (fun b=>lab b≠0) W w
section
variable {W W' w w':World} {tb next:Nat} {t:T} {i:In} {lab lab':Nat->Nat} {p j:Nat}
theorem aFb {α:Type} (f:Nat->α) (k:Nat):updF f k (f k)=f:=funext fun j=>by unfold updF;split <;> simp_all
theorem DelI.col (h:DelI W tb t next i lab p j w) (hj:j<t.cols.length) (hl:(i.cl j).length<=900) (hp:p<(i.cl j).length) :
  Calls Tryz.prog 73 #[.pointer (some ⟨i.cb j,0,none⟩),.int .i64 (p:Int),.agg #[.int .i64 (0),.int .i64 (0),.string (⟨#[]⟩)]] w fun e w'=>e=.returned (.bool true)/\DelI W tb t next i lab p (j+1) w':=by
 obtain⟨cl,lab2,h1,h2,h3,h4⟩:=h;have hcl:cl j=i.cl j:=(by rw[h2 j hj,if_neg (Nat.lt_irrefl j)]);have hcol:=h1.col j hj;simp only at hcol;rw[hcl] at hcol;refine (qQ hcol hl p hp z3 (by decide) (aGZ _)).mono ?_;rintro e w' ⟨rfl,k1,k2⟩;obtain⟨lab3,q1,q2,q3⟩:=h1.setcol (l':=(i.cl j).set p z3) hj k1 k2 (fun q hq=>.inl hq);simp only[aFb] at q1;refine⟨rfl,_,lab3,q1,fun k hk=>?_,h3.trans h4.size q2,h4.trans q3 (fun _ _ h=>h) (eE h3)⟩;show updF cl j _ k=_;by_cases e:k=j
 ·subst e;rw[bM,if_pos (Nat.lt_succ_self k)]
 rw[bC _ _ e,h2 k hk];by_cases e2:k<j
 ·rw[if_pos e2,if_pos (by omega)]
 rw[if_neg e2,if_neg (by omega)]
theorem DelI.ptr (h:DelI W tb t next i lab p j w) {g n c k:Nat} (hcv:i.cv=.slice (some ⟨g,0,none⟩) n c) (hk:k<t.cols.length):g<w.heap.size/\w.cell? ⟨g,k,none⟩=some (Value.pointer (some ⟨i.cb k,0,none⟩)):=by
 obtain⟨cl,lab2,h1,h2,h3,h4⟩:=h;obtain⟨g',c',e,_,_,k1,k2⟩:=h1.ptr hk;simp only at e k2;rw[hcv] at e;cases e;exact⟨k1,k2⟩
theorem TbM.setdel (h:TbM W tb t next i lab) {x:Int} {q:Nat} (hx:F64 x) (hf:i.f x=some q) (ty:TypeId) :
  ∃ w',(Builtin.delete_ #[114,3] ty #[i.pv,.int .i64 x]).run Tryz.prog W=.ok (.tuple #[]) w'/\TbM w' tb t next { i with f:=delF i.f x,np:=i.np-1 } lab/\Tn (fun b=>lab b≠0) W w':=by
 obtain⟨b,hpv,hmi⟩:∃ b,i.pv=.map (some b)/\Mi W b i.f i.np i.m:=by
  rcases h.place with ⟨e,_,hn⟩ | ⟨b',e,hm⟩
  ·rw[hn x] at hf;cases hf
  exact⟨b',e,hm⟩
 obtain⟨es,ck,hmap⟩:=hmi.isMap;obtain⟨w',hrun,hm',hg⟩:=hmi.del hx hf ty;have hlb:lab b=2:=h.l2 b (by rw[hpv];rfl);have htn:Tn (fun c=>c=b) W w':=Tn.of_chg ((Chg.refl (fun c=>c=b) W).grown hg (fun k hk _=>by cases hk;rfl)) (fun c _ hc=>.inr ⟨es,ck,by rw[hc];exact hmap⟩);have hne:∀ c q,lab c=q->q≠2->c≠b:=(fun c q e h2 e2=>h2 (by rw[<- e,e2];exact hlb));have hkeep:∀ c q,lab c=q->q≠0->q≠2->w'.heap[c]?=W.heap[c]?:=fun c q e h0 h1=>htn.chg.block c (h.lt c (by rw[e];exact h0)) (hne c q e h1)
 refine⟨w',by rw[hpv];exact hrun,⟨⟨h.form.tn htn,h.cols.tn htn rfl,fun j hj=>(h.col j hj).tn htn (hne _ _ (h.l6 j hj) (by omega)) (fun c hc=>hne _ _ (h.l7 j hj c hc) (by omega)),.inr ⟨b,hpv,hm'⟩,h.pm,h.free.of (fun c hc=>hkeep c 3 (h.l3 c hc) (by decide) (by decide)),h.gone.tn htn,
  h.late.of (fun c hc=>hkeep c 4 (h.l4 c hc) (by decide) (by decide)),h.l1,h.l2,h.l3,h.l4,h.l6,h.l7,fun c hc=>Nat.lt_of_lt_of_le (h.lt c hc) htn.size⟩,(hkeep tb 1 h.l1 (by decide) (by decide)).trans h.box⟩,htn.mono (fun c _ hc=>by show lab c≠0;rw[show c=b from hc,hlb];decide)⟩
theorem TbM.addfree (h:TbM W tb t next i lab) (p:Nat) (hl:i.free.length<=10000) :
  ∃ g cap w3,(Builtin.append_ #[45,45] 45 #[i.fv,.slice (some ⟨W.heap.size,0,none⟩) 1 1]).run Tryz.prog (W.alloc (.cells #[.int .i64 (p:Int)] 3))=.ok (.slice (some ⟨g,0,none⟩) (i.free.length+1) cap) w3/\tb<w3.heap.size/\w3.frozen? ⟨tb,6,none⟩=false/\(∃ u,w3.cell? ⟨tb,6,none⟩=some u) /\
   ∃ lab',TbM (w3.setCell ⟨tb,6,none⟩ (.slice (some ⟨g,0,none⟩) (i.free.length+1) cap)) tb t next { i with fv:=.slice (some ⟨g,0,none⟩) (i.free.length+1) cap,free:=i.free++[p] } lab'/\Ext W lab lab'/\Tn (fun b=>lab b≠0) W (w3.setCell ⟨tb,6,none⟩ (.slice (some ⟨g,0,none⟩) (i.free.length+1) cap)):=by
 have hro:Ro W 0 i.fv (i.free.map fun q:Nat=>(q:Int)):=by
  have:=h.free
  rw[show i.free.map ivn=(i.free.map fun q:Nat=>(q:Int)).map iv by simp] at this;have e:(i.free.map fun q:Nat=>(q:Int)).length=i.free.length:=(by simp);show HRow W 0 3 1 i.fv (i.free.map fun q:Nat=>(q:Int)).length _;rw[e];exact this
 obtain⟨g,cap,w3,hrun,r3,g3,own⟩:=iY 45 Tryz.underlying45 W 0 (n:=i.free.length) (by simp) hro (by omega) (Nat.zero_le _) (p:Int)
 have hty:∀ b,i.fv.ownBlock=some b->Ty W b:=fun b hb=>by
  obtain⟨_,cur,h1⟩:=h.free.block b hb;exact⟨cur,3,h1,rfl⟩
 have hchg:Chg (fun b=>i.fv.ownBlock=some b) W w3:=(Chg.refl _ W).grown g3 (fun k hk _=>hk);have htn:Tn (fun b=>i.fv.ownBlock=some b) W w3:=Tn.of_chg hchg (fun b _ hb=>.inl (hty b hb));have hne:∀ c q,lab c=q->q≠3->¬ i.fv.ownBlock=some c:=(fun c q e h2 e2=>h2 (by rw[<- e];exact h.l3 c e2));have hkeep:∀ c q,lab c=q->q≠0->q≠3->w3.heap[c]?=W.heap[c]?:=fun c q e h0 h1=>hchg.block c (h.lt c (by rw[e];exact h0)) (hne c q e h1)
 have hext:Ext W lab (addL1 lab (some g) 3):=gC (fun b hb=>by
  cases hb;rcases own with h1|h1
  ·exact .inl (h.l3 g h1)
  exact .inr h1)
 have heq:=jE h.lt hext;have e:∀ b q,lab b=q->q≠0->addL1 lab (some g) 3 b=q:=fun b q h1 h2=>by rw[heq b (by rw[h1];exact h2),h1]
 have hr3:HRow w3 0 3 1 (.slice (some ⟨g,0,none⟩) (i.free.length+1) cap) (i.free.length+1) ((i.free++[p]).map ivn):=by
  have e2:(i.free++[p]).map ivn=((i.free.map fun q:Nat=>(q:Int))++[(p:Int)]).map iv:=(by simp);rw[e2];have e3:((i.free.map fun q:Nat=>(q:Int))++[(p:Int)]).length=i.free.length+1:=by simp
  have:=r3
  unfold Ro at this;rw[e3] at this;exact this
 have hbox3:=(hkeep tb 1 h.l1 (by decide) (by decide)).trans h.box
 have hM3:TbR w3 tb t next { i with fv:=.slice (some ⟨g,0,none⟩) (i.free.length+1) cap,free:=i.free++[p] } (addL1 lab (some g) 3):=by
  refine⟨h.form.tn htn,h.cols.tn htn rfl,fun j hj=>(h.col j hj).tn htn (hne _ _ (h.l6 j hj) (by omega)) (fun c hc=>hne _ _ (h.l7 j hj c hc) (by omega)),h.place.of (fun c hc=>hkeep c 2 (h.l2 c hc) (by decide) (by decide)),h.pm,?_,h.gone.tn htn,h.late.of (fun c hc=>hkeep c 4 (h.l4 c hc) (by decide) (by decide)),
   e _ _ h.l1 (by decide),fun b hb=>e _ _ (h.l2 b hb) (by decide),fun b hb=>?_,fun b hb=>e _ _ (h.l4 b hb) (by decide),fun j hj=>e _ _ (h.l6 j hj) (by omega),fun j hj b hb=>e _ _ (h.l7 j hj b hb) (by omega),jF h.lt htn.size (fun b hb=>by cases hb;exact (hr3.lt g rfl).2)⟩
  ·have e3:(i.free++[p]).length=i.free.length+1:=(by simp);show HRow w3 0 3 1 _ (i.free++[p]).length _;rw[e3];exact hr3
  cases hb;exact gD g rfl
 have hl1:addL1 lab (some g) 3 tb=1:=e _ _ h.l1 (by decide);have htn2:Tn (fun b=>b=tb) w3 (w3.setCell ⟨tb,6,none⟩ (.slice (some ⟨g,0,none⟩) (i.free.length+1) cap)):=Tn.of_chg ((Chg.refl (fun b=>b=tb) w3).setCell (p:=⟨tb,6,none⟩) (fun _=>rfl) _) (fun b _ hb=>.inl (by rw[hb];exact⟨_,116,hbox3,rfl⟩));have h4:=hM3.tn htn2 (fun b hb=>.inr (by rw[hb];exact hl1));refine⟨g,cap,w3,hrun,aC hbox3,frozen_of_row w3 tb 6 _ _ hbox3,⟨_,aA hbox3 6⟩,_,⟨h4,heap_setCell_same _ tb 6 _ _ _ hbox3⟩,hext,htn.trans htn2 (fun b _ hb=>by show lab b≠0;rw[h.l3 b hb];decide) (fun b _ hb=>by show lab b≠0;rw[show b=tb from hb,h.l1];decide)⟩
theorem TbM.addlate (h:TbM W tb t next i lab) (x:Int) (hl:i.late.length<=10000) :
  ∃ g cap w3,(Builtin.append_ #[45,45] 45 #[i.lv,.slice (some ⟨W.heap.size,0,none⟩) 1 1]).run Tryz.prog (W.alloc (.cells #[.int .i64 x] 3))=.ok (.slice (some ⟨g,0,none⟩) (i.late.length+1) cap) w3/\tb<w3.heap.size/\w3.frozen? ⟨tb,8,none⟩=false/\(∃ u,w3.cell? ⟨tb,8,none⟩=some u) /\
   ∃ lab',TbM (w3.setCell ⟨tb,8,none⟩ (.slice (some ⟨g,0,none⟩) (i.late.length+1) cap)) tb t next { i with lv:=.slice (some ⟨g,0,none⟩) (i.late.length+1) cap,late:=i.late++[x] } lab'/\Ext W lab lab'/\Tn (fun b=>lab b≠0) W (w3.setCell ⟨tb,8,none⟩ (.slice (some ⟨g,0,none⟩) (i.late.length+1) cap)):=by
 obtain⟨g,cap,w3,hrun,r3,g3,own⟩:=iY 45 Tryz.underlying45 W 0 (n:=i.late.length) rfl h.late (by omega) (Nat.zero_le _) x
 have hty:∀ b,i.lv.ownBlock=some b->Ty W b:=fun b hb=>by
  obtain⟨_,cur,h1⟩:=h.late.block b hb;exact⟨cur,3,h1,rfl⟩
 have hchg:Chg (fun b=>i.lv.ownBlock=some b) W w3:=(Chg.refl _ W).grown g3 (fun k hk _=>hk);have htn:Tn (fun b=>i.lv.ownBlock=some b) W w3:=Tn.of_chg hchg (fun b _ hb=>.inl (hty b hb));have hne:∀ c q,lab c=q->q≠4->¬ i.lv.ownBlock=some c:=(fun c q e h2 e2=>h2 (by rw[<- e];exact h.l4 c e2));have hkeep:∀ c q,lab c=q->q≠0->q≠4->w3.heap[c]?=W.heap[c]?:=fun c q e h0 h1=>hchg.block c (h.lt c (by rw[e];exact h0)) (hne c q e h1)
 have hext:Ext W lab (addL1 lab (some g) 4):=gC (fun b hb=>by
  cases hb;rcases own with h1|h1
  ·exact .inl (h.l4 g h1)
  exact .inr h1)
 have heq:=jE h.lt hext;have e:∀ b q,lab b=q->q≠0->addL1 lab (some g) 4 b=q:=(fun b q h1 h2=>by rw[heq b (by rw[h1];exact h2),h1]);have e3:(i.late++[x]).length=i.late.length+1:=by simp
 have hr3:HRow w3 0 3 1 (.slice (some ⟨g,0,none⟩) (i.late.length+1) cap) (i.late.length+1) ((i.late++[x]).map iv):=by
  have:=r3
  unfold Ro at this;rw[e3] at this;exact this
 have hbox3:=(hkeep tb 1 h.l1 (by decide) (by decide)).trans h.box
 have hM3:TbR w3 tb t next { i with lv:=.slice (some ⟨g,0,none⟩) (i.late.length+1) cap,late:=i.late++[x] } (addL1 lab (some g) 4):=by
  refine⟨h.form.tn htn,h.cols.tn htn rfl,fun j hj=>(h.col j hj).tn htn (hne _ _ (h.l6 j hj) (by omega)) (fun c hc=>hne _ _ (h.l7 j hj c hc) (by omega)),h.place.of (fun c hc=>hkeep c 2 (h.l2 c hc) (by decide) (by decide)),h.pm,h.free.of (fun c hc=>hkeep c 3 (h.l3 c hc) (by decide) (by decide)),h.gone.tn htn,?_,
   e _ _ h.l1 (by decide),fun b hb=>e _ _ (h.l2 b hb) (by decide),fun b hb=>e _ _ (h.l3 b hb) (by decide),fun b hb=>?_,fun j hj=>e _ _ (h.l6 j hj) (by omega),fun j hj b hb=>e _ _ (h.l7 j hj b hb) (by omega),jF h.lt htn.size (fun b hb=>by cases hb;exact (hr3.lt g rfl).2)⟩
  ·show HRow w3 0 3 1 _ (i.late++[x]).length _;rw[e3];exact hr3
  cases hb;exact gD g rfl
 have hl1:addL1 lab (some g) 4 tb=1:=e _ _ h.l1 (by decide);have htn2:Tn (fun b=>b=tb) w3 (w3.setCell ⟨tb,8,none⟩ (.slice (some ⟨g,0,none⟩) (i.late.length+1) cap)):=Tn.of_chg ((Chg.refl (fun b=>b=tb) w3).setCell (p:=⟨tb,8,none⟩) (fun _=>rfl) _) (fun b _ hb=>.inl (by rw[hb];exact⟨_,116,hbox3,rfl⟩));have h4:=hM3.tn htn2 (fun b hb=>.inr (by rw[hb];exact hl1));refine⟨g,cap,w3,hrun,aC hbox3,frozen_of_row w3 tb 8 _ _ hbox3,⟨_,aA hbox3 8⟩,_,⟨h4,heap_setCell_same _ tb 8 _ _ _ hbox3⟩,hext,htn.trans htn2 (fun b _ hb=>by show lab b≠0;rw[h.l4 b hb];decide) (fun b _ hb=>by show lab b≠0;rw[show b=tb from hb,h.l1];decide)⟩
theorem TbM.setgone (h:TbM W tb t next i lab) {p:Option Addr} {n c:Nat} {P:Int->Bool} (hv:Vm W (.slice p n c) P) :
  TbM ((W.setCell ⟨tb,7,none⟩ (.slice p n c)).setCell ⟨tb,8,none⟩ (.slice none 0 0)) tb t next { i with gv:=.slice p n c,G:=P,lv:=.slice none 0 0,late:=[] } lab/\Tn (fun b=>lab b≠0) W ((W.setCell ⟨tb,7,none⟩ (.slice p n c)).setCell ⟨tb,8,none⟩ (.slice none 0 0)):=by
 have htn:=Tn.own h 7 (.slice p n c);have h2:=h.toTbR.tn htn (fun b hb=>.inr hb);have h3:TbM (W.setCell ⟨tb,7,none⟩ (.slice p n c)) tb t next { i with gv:=.slice p n c,G:=P } lab:=⟨⟨h2.form,h2.cols,h2.col,h2.place,h2.pm,h2.free,hv.tn htn,h2.late,h2.l1,h2.l2,h2.l3,h2.l4,h2.l6,h2.l7,h2.lt⟩,heap_setCell_same _ tb 7 _ _ _ h.box⟩;have htn2:=Tn.own h3 8 (.slice none 0 0);have h4:=h3.toTbR.tn htn2 (fun b hb=>.inr hb);refine⟨⟨⟨h4.form,h4.cols,h4.col,h4.place,h4.pm,h4.free,h4.gone,HRow.nil,h4.l1,h4.l2,h4.l3,fun b hb=>(by cases hb),h4.l6,h4.l7,h4.lt⟩,heap_setCell_same _ tb 8 _ _ _ h3.box⟩,htn.trans htn2 (fun b _ hb=>by show lab b≠0;rw[show lab b=1 from hb];decide) (fun b _ hb=>by show lab b≠0;rw[show lab b=1 from hb];decide)⟩
end
