import Derived.Test.YtgbkmjnnlkgpnaaGreatZb23
import Derived.Maps.OwnIn
set_option maxHeartbeats 1000000
set_option maxRecDepth 100000
namespace Go.Proofs.YtgbkmjnnlkgpnaaGreat
open Go Go.RowKit Go.Proofs Co Co.S
def Tb (W:World) (tb:Nat) (t:T) (next:Nat) (A:List R1) (lab:Nat->Nat):Prop:=∃ i,TbM W tb t next i lab/\Inv t.cols.length next i A
section
variable {W W':World} {tb next:Nat} {t:T} {A:List R1} {lab:Nat->Nat}
theorem Tb.tn {S:Nat->Prop} (h:Tb W tb t next A lab) (hk:Tn S W W') (hs:∀ b,S b->lab b=0):Tb W' tb t next A lab:=by
 obtain⟨i,h1,h2⟩:=h;exact⟨i,h1.tn hk hs,h2⟩
theorem Tb.later (h:Tb W tb t next A lab) (hb:Below W.heap.size W W'):Tb W' tb t next A lab:=by
 obtain⟨i,h1,h2⟩:=h;exact⟨i,h1.later hb,h2⟩
theorem Tb.lt (h:Tb W tb t next A lab):∀ b,lab b≠0->b<W.heap.size:=by
 obtain⟨i,h1,h2⟩:=h;exact h1.lt
end
section
variable {W W':World} {tb next:Nat} {t:T} {i:In} {A:List R1} {lab:Nat->Nat}
theorem TbM.setnext (h:TbM W tb t next i lab):TbM (W.setCell ⟨tb,9,none⟩ (.int .i64 ((next:Int)+1))) tb t (next+1) i lab/\Tn (fun b=>lab b≠0) W (W.setCell ⟨tb,9,none⟩ (.int .i64 ((next:Int)+1))):=by
 have htn:=Tn.own h 9 (.int .i64 ((next:Int)+1));have h2:=h.toTbR.tn htn (fun b hb=>.inr hb);exact⟨⟨⟨h2.form,h2.cols,h2.col,h2.place,Nat.le_succ_of_le h2.pm,h2.free,h2.gone,h2.late,h2.l1,h2.l2,h2.l3,h2.l4,h2.l6,h2.l7,h2.lt⟩,heap_setCell_same _ tb 9 _ _ _ h.box⟩,htn.mono (fun b _ hb=>by show lab b≠0;rw[show lab b=1 from hb];decide)⟩
theorem Inv.free_le {n:Nat} (h:Inv n next i A):∀ p∈i.free,p<=A.length+i.free.length:=fun p hp=>Nat.le_of_lt (h.fre p hp).1
theorem PutI.inv {n:Nat} {W0 w:World} {nx:Nat} {vals:List T3} (hn:t.cols.length=n) (h:Inv n next i A) (hv:vals.length=n) (hnx:next+1<=65536) (hP:PutI W0 tb t nx i lab (next:Int) (spot i) vals n w) :
  ∃ i2 lab2,TbM w tb t nx i2 lab2/\Inv n (next+1) i2 (A++[((next:Int),vals)])/\Ext W0 lab lab2/\Tn (fun b=>lab b≠0) W0 w:=by
 obtain⟨i2,lab2,h1,h2,h3,h4,h5,h6,h7,h8,h9,h10,h11⟩:=hP;rw[hn] at h7;refine⟨i2,lab2,h1,?_,h8,h9⟩;have hgd:∀ k,k<n->some (vals.getD k z3)=vals[k]?:=(fun k hk=>by rw[List.getD_eq_getElem?_getD,List.getElem?_eq_getElem (by omega)];rfl);rcases List.eq_nil_or_concat i.free with h0|⟨fr,p,h0⟩
 ·have hs:spot i=A.length:=(by unfold spot;rw[h0,<- h.np];rfl);rw[hs] at h2 h7;have hlen:=h.lens;have hfe:i2.free=[]:=(by rw[h4,h0];rfl);rw[h0] at hlen;simp only[List.length_nil,Nat.add_zero] at hlen
  have hcl:∀ k,k<n->i2.cl k=i.cl k++[vals.getD k z3]:=fun k hk=>by
   rw[h7 k hk,if_pos hk];unfold putL;rw[if_neg (by rw[hlen k hk];omega)]
  refine h.ins (p:=A.length) hv hnx h3 h2 h5 h6 (fun x hx=>?_) (fun q=>by rw[hfe,h0];simp) (by rw[hfe];exact List.nodup_nil) (fun q=>by rw[hfe,h0];simp;omega) (by rw[hfe];have:=h.few;simp;omega) (fun k hk=>?_) (fun k hk=>?_) (fun k hk q hq=>?_)
  ·obtain⟨a,_,_,hb,_⟩:=h.atP hx;rw[h0] at hb;simp at hb
  ·rw[hcl k hk,hfe,List.length_append,hlen k hk];rfl
  ·rw[hcl k hk,List.getElem?_append_right (by rw[hlen k hk];exact Nat.le_refl _),hlen k hk,<- hgd k hk]
   simp
  ·rw[hcl k hk];rcases Nat.lt_or_ge q A.length with h1|h1
   ·rw[List.getElem?_append_left (by rw[hlen k hk];exact h1)]
   ·rw[List.getElem?_eq_none (by rw[List.length_append,hlen k hk];simp;omega),List.getElem?_eq_none (by rw[hlen k hk];exact h1)]
 ·have h0:i.free=fr++[p]:=(by rw[h0];simp);have hs:spot i=p:=(by unfold spot;rw[h0];simp);rw[hs] at h2 h7;have hfe:i2.free=fr:=(by rw[h4,h0];simp);have hpm:p∈i.free:=(by rw[h0];simp);obtain⟨hp1,hp2,hp3⟩:=h.fre p hpm;have hnd:=h.fnd;rw[h0,List.nodup_append] at hnd;have hpf:p ∉ fr:=(fun hm=>hnd.2.2 p hm p (by simp) rfl);have hfl:i.free.length=fr.length+1:=by rw[h0];simp
  have hcl:∀ k,k<n->i2.cl k=(i.cl k).set p (vals.getD k z3):=fun k hk=>by
   rw[h7 k hk,if_pos hk];unfold putL;rw[if_pos (by rw[h.lens k hk];exact hp1)]
  refine h.ins (p:=p) hv hnx h3 h2 h5 h6 hp2 (fun q=>?_) (by rw[hfe];exact hnd.1) (fun q=>by rw[hfe,hfl];constructor <;> omega) (by rw[hfe];have:=h.few;omega) (fun k hk=>?_) (fun k hk=>?_) (fun k hk q hq=>?_)
  ·rw[hfe,h0];constructor
   ·intro hq;exact⟨by simp[hq],fun e=>hpf (e▸hq)⟩
   ·rintro ⟨hq,hne⟩;rcases List.mem_append.1 hq with hq|hq
    ·exact hq
    ·exact absurd (List.mem_singleton.1 hq) hne
  ·rw[hcl k hk,List.length_set,h.lens k hk,hfe,hfl];omega
  ·rw[hcl k hk,List.getElem?_set_self (by rw[h.lens k hk];exact hp1),hgd k hk]
  ·rw[hcl k hk,List.getElem?_set_ne (fun e=>hq e.symm)]
def insE (t:T) (vals:List T3):Int:=if vals.length≠t.cols.length then 1 else if okVals t vals then 0 else 4
theorem mayE_lt {vals:List T3} (h:next≠65536):mayE t next vals=insE t vals:=if_neg h
theorem tb_ins_no {S:Nat->Prop} {vv:Value} {vals:List T3} (h:Tb W tb t next A lab) (hv:InV S W vv vals) (hn:next<65536) (hc:t.cols.length<=1000) (hs:∀ x∈vals,x.2.2.size<=maxLen) (hl:vals.length<=1000000) (hno:insE t vals≠0) :
  Calls Tryz.prog 35 #[(Value.pointer (some ⟨tb,0,none⟩)),vv] W fun e w'=>e=.returned (.tuple #[.int .i64 0,.int .i64 (insE t vals)])/\Below W.heap.size W w':=by
 obtain⟨i,h1,h2⟩:=h;have hm:=tmay_any h1 hv (by omega) hc hs hl;rw[mayE_lt (by omega)] at hm;generalize insE t vals=E at hm hno ⊢;have hne:(E != 0)=true:=(by simp[hno]);clear h1 h2 hv hs hl;go_enter Tryz.func35,Tryz.ntmps35;go_wp2_with (go_at_call 60;(with_reducible refine hm.mono ?_);rintro e w2 ⟨rfl,hb⟩);go_ret2;exact⟨rfl,hb⟩
theorem tb_ins_yes {S:Nat->Prop} {vv:Value} {vals:List T3} (h:Tb W tb t next A lab) (hv:InV S W vv vals) (hS:∀ b,S b->lab b=0) (hn:next<=390) (hc:t.cols.length<=1000) (hs:∀ x∈vals,x.2.2.size<=maxLen) (hl:vals.length<=1000000) (hyes:insE t vals=0) :
  Calls Tryz.prog 35 #[(Value.pointer (some ⟨tb,0,none⟩)),vv] W fun e w'=>e=.returned (.tuple #[.int .i64 (next:Int),.int .i64 0])/\∃ lab',Tb w' tb t (next+1) (A++[((next:Int),vals)]) lab'/\Ext W lab lab'/\Tn (fun b=>lab b≠0) W w':=by
 obtain⟨i,h1,h2⟩:=h;have hm:=tmay_any h1 hv (by omega) hc hs hl;rw[mayE_lt (by omega),hyes] at hm
 have hlen:vals.length=t.cols.length:=by
  unfold insE at hyes;by_cases e:vals.length=t.cols.length
  ·exact e
  ·rw[if_pos e] at hyes;cases hyes
 have hok:okVals t vals=true:=by
  unfold insE at hyes;rw[if_neg (fun h=>h hlen)] at hyes;by_cases e:okVals t vals=true
  ·exact e
  ·rw[if_neg e] at hyes;cases hyes
 have HX:Hid (∀ w,Below W.heap.size W w->w.cell? ⟨tb,9,none⟩=some (.int .i64 (next:Int))/\tb<w.heap.size/\w.frozen? ⟨tb,9,none⟩=false/\Calls Tryz.prog 61 #[(Value.pointer (some ⟨tb,0,none⟩)),.int .i64 (next:Int),vv] (w.setCell ⟨tb,9,none⟩ (.int .i64 ((next:Int)+1))) fun e w'=>e=.returned (.tuple #[])/\∃ lab',Tb w' tb t (next+1) (A++[((next:Int),vals)]) lab'/\Ext W lab lab'/\Tn (fun b=>lab b≠0) W w'):=Lib.hid (fun w hw=>by
  have h3:=h1.later hw;obtain⟨k1,k2⟩:=h3.setnext;have hfew:=h2.few;have hnf:i.f (next:Int)=none:=h2.no _ (fun a ha e=>by have:=(h2.rng a ha).2;omega);have hv2:=(hv.later hw).tn k2 (fun b hb hn=>hn (hS b hb))
  have hsp:∀ k,k<t.cols.length->(i.cl k).length+1<=900/\spot i<=(i.cl k).length:=fun k hk=>by
   rw[h2.lens k hk];refine⟨by omega,?_⟩;unfold spot;cases hg:i.free.getLast? with
   | none=>show i.np<=_;rw[h2.np];omega
   | some q=>exact h2.free_le q (List.mem_of_getLast? hg)
  refine⟨h3.cells.2.2.2.2.2.2.2.2.2,h3.tlt,h3.fz 9,(tput_any k1 (id:=(next:Int)) (by constructor <;> omega) hnf hv2 hS hlen hok hs (by rw[h2.np];omega) (by omega) (fun p hp=>by have:=h2.free_le p hp;omega) hsp (by have:=k1.pm;have:=h3.pm;omega) (by omega)).mono ?_⟩;rintro e w' ⟨rfl,hP⟩;obtain⟨i2,lab2,j1,j2,j3,j4⟩:=PutI.inv rfl h2 hlen (by omega) hP;exact⟨rfl,lab2,⟨i2,j1,j2⟩,fun b hb=>j3 b (Nat.lt_of_lt_of_le hb (Nat.le_trans hw.size k2.size)),((Tn.of_below (S:=fun _=>False) hw).trans k2 (fun _ _ h=>h.elim) (fun _ _ h=>h)).trans j4 (fun _ _ h=>h) (fun _ _ h=>h)⟩)
 have hwr:IntKind.i64.wrap ((next:Int)+1)=(next:Int)+1:=(by rw[IntKind.wrap_i64];omega);clear h1 h2 hv hS hs hl hyes hlen hok;go_enter Tryz.func35,Tryz.ntmps35
 go_wp2_with (first
  | (go_at_call 60;(with_reducible refine hm.mono ?_);rintro e w2 ⟨rfl,hb⟩;obtain⟨c9,zl,f9,hput⟩:=HX.out w2 hb;clear hm hb)
  | (go_at_call 61;(with_reducible refine hput.mono ?_);rintro e w3 ⟨rfl,hT⟩;have H3:=Lib.hid hT;clear hT hput))
 go_ret2;exact⟨rfl,H3.out⟩
end
theorem inC_z3 (kind:Int):inC kind z3=true:=by simp[inC,mayV]
def DelI (W:World) (tb:Nat) (t:T) (next:Nat) (i:In) (lab:Nat->Nat) (p j:Nat) (w:World):Prop :=
 ∃ cl lab2,TbM w tb t next { i with cl:=cl } lab2/\(∀ k,k<t.cols.length->cl k=if k<j then (i.cl k).set p z3 else i.cl k)/\Ext W lab lab2/\Tn (fun b=>lab b≠0) W w
section
variable {W W' w w':World} {tb next:Nat} {t:T} {i:In} {lab lab':Nat->Nat} {p j:Nat}
theorem updF_id {α:Type} (f:Nat->α) (k:Nat):updF f k (f k)=f:=funext fun j=>by unfold updF;split <;> simp_all
theorem DelI.col (h:DelI W tb t next i lab p j w) (hj:j<t.cols.length) (hl:(i.cl j).length<=900) (hp:p<(i.cl j).length) :
  Calls Tryz.prog 64 #[(Value.pointer (some ⟨i.cb j,0,none⟩)),.int .i64 (p:Int),(Value.agg #[Value.int .i64 (0),Value.int .i64 (0),Value.string (⟨#[]⟩)])] w fun e w'=>e=.returned (.bool true)/\DelI W tb t next i lab p (j+1) w':=by
 obtain⟨cl,lab2,h1,h2,h3,h4⟩:=h;have hcl:cl j=i.cl j:=(by rw[h2 j hj,if_neg (Nat.lt_irrefl j)]);have hcol:=h1.col j hj;simp only at hcol;rw[hcl] at hcol;refine (col_set hcol hl p hp z3 (by decide) (inC_z3 _)).mono ?_;rintro e w' ⟨rfl,k1,k2⟩;obtain⟨lab3,q1,q2,q3⟩:=h1.setcol (l':=(i.cl j).set p z3) hj k1 k2 (fun q hq=>.inl hq);simp only[updF_id] at q1;refine⟨rfl,_,lab3,q1,fun k hk=>?_,h3.trans h4.size q2,h4.trans q3 (fun _ _ h=>h) (ext_sub h3)⟩;show updF cl j _ k=_;by_cases e:k=j
 ·subst e;rw[updF_same,if_pos (Nat.lt_succ_self k)]
 ·rw[updF_other _ _ e,h2 k hk];by_cases e2:k<j
  ·rw[if_pos e2,if_pos (by omega)]
  ·rw[if_neg e2,if_neg (by omega)]
theorem DelI.ptr (h:DelI W tb t next i lab p j w) {g n c k:Nat} (hcv:i.cv=.slice (some ⟨g,0,none⟩) n c) (hk:k<t.cols.length):g<w.heap.size/\w.cell? ⟨g,k,none⟩=some (Value.pointer (some ⟨i.cb k,0,none⟩)):=by
 obtain⟨cl,lab2,h1,h2,h3,h4⟩:=h;obtain⟨g',c',e,_,_,k1,k2⟩:=h1.ptr hk;simp only at e k2;rw[hcv] at e;cases e;exact⟨k1,k2⟩
theorem TbM.setdel (h:TbM W tb t next i lab) {x:Int} {q:Nat} (hx:F64 x) (hf:i.f x=some q) (ty:TypeId) :
  ∃ w',(Builtin.delete_ #[110,3] ty #[i.pv,.int .i64 x]).run Tryz.prog W=.ok (.tuple #[]) w'/\TbM w' tb t next { i with f:=delF i.f x,np:=i.np-1 } lab/\Tn (fun b=>lab b≠0) W w':=by
 obtain⟨b,hpv,hmi⟩:∃ b,i.pv=.map (some b)/\Mi W b i.f i.np i.m:=by
  rcases h.place with ⟨e,_,hn⟩ | ⟨b',e,hm⟩
  ·rw[hn x] at hf;cases hf
  ·exact⟨b',e,hm⟩
 obtain⟨es,ck,hmap⟩:=hmi.isMap;obtain⟨w',hrun,hm',hg⟩:=hmi.del hx hf ty;have hlb:lab b=2:=h.l2 b (by rw[hpv];rfl);have htn:Tn (fun c=>c=b) W w':=Tn.of_chg ((Chg.refl (fun c=>c=b) W).grown hg (fun k hk _=>by cases hk;rfl)) (fun c _ hc=>.inr ⟨es,ck,by rw[hc];exact hmap⟩);have hne:∀ c q,lab c=q->q≠2->c≠b:=(fun c q e h2 e2=>h2 (by rw[<- e,e2];exact hlb));have hkeep:∀ c q,lab c=q->q≠0->q≠2->w'.heap[c]?=W.heap[c]?:=fun c q e h0 h1=>htn.chg.block c (h.lt c (by rw[e];exact h0)) (hne c q e h1)
 refine⟨w',by rw[hpv];exact hrun,⟨⟨h.form.tn htn,h.cols.tn htn rfl,fun j hj=>(h.col j hj).tn htn (hne _ _ (h.l6 j hj) (by omega)) (fun c hc=>hne _ _ (h.l7 j hj c hc) (by omega)),.inr ⟨b,hpv,hm'⟩,h.pm,h.free.of (fun c hc=>hkeep c 3 (h.l3 c hc) (by decide) (by decide)),h.gone.tn htn,
  h.late.of (fun c hc=>hkeep c 4 (h.l4 c hc) (by decide) (by decide)),h.l1,h.l2,h.l3,h.l4,h.l6,h.l7,fun c hc=>Nat.lt_of_lt_of_le (h.lt c hc) htn.size⟩,(hkeep tb 1 h.l1 (by decide) (by decide)).trans h.box⟩,htn.mono (fun c _ hc=>by show lab c≠0;rw[show c=b from hc,hlb];decide)⟩
theorem TbM.addfree (h:TbM W tb t next i lab) (p:Nat) (hl:i.free.length<=10000) :
  ∃ g cap w3,(Builtin.append_ #[30,30] 30 #[i.fv,.slice (some ⟨W.heap.size,0,none⟩) 1 1]).run Tryz.prog (W.alloc (.cells #[.int .i64 (p:Int)] 3))=.ok (.slice (some ⟨g,0,none⟩) (i.free.length+1) cap) w3/\tb<w3.heap.size/\w3.frozen? ⟨tb,6,none⟩=false/\(∃ u,w3.cell? ⟨tb,6,none⟩=some u) /\
   ∃ lab',TbM (w3.setCell ⟨tb,6,none⟩ (.slice (some ⟨g,0,none⟩) (i.free.length+1) cap)) tb t next { i with fv:=.slice (some ⟨g,0,none⟩) (i.free.length+1) cap,free:=i.free++[p] } lab'/\Ext W lab lab'/\Tn (fun b=>lab b≠0) W (w3.setCell ⟨tb,6,none⟩ (.slice (some ⟨g,0,none⟩) (i.free.length+1) cap)):=by
 have hro:Ro W 0 i.fv (i.free.map fun q:Nat=>(q:Int)):=by
  have:=h.free
  rw[show i.free.map ivn=(i.free.map fun q:Nat=>(q:Int)).map iv by simp] at this;have e:(i.free.map fun q:Nat=>(q:Int)).length=i.free.length:=(by simp);show HRow W 0 3 1 i.fv (i.free.map fun q:Nat=>(q:Int)).length _;rw[e];exact this
 obtain⟨g,cap,w3,hrun,r3,g3,own⟩:=app_int 30 Tryz.underlying30 W 0 (n:=i.free.length) (by simp) hro (by omega) (Nat.zero_le _) (p:Int)
 have hty:∀ b,i.fv.ownBlock=some b->Ty W b:=fun b hb=>by
  obtain⟨_,cur,h1⟩:=h.free.block b hb;exact⟨cur,3,h1,rfl⟩
 have hchg:Chg (fun b=>i.fv.ownBlock=some b) W w3:=(Chg.refl _ W).grown g3 (fun k hk _=>hk);have htn:Tn (fun b=>i.fv.ownBlock=some b) W w3:=Tn.of_chg hchg (fun b _ hb=>.inl (hty b hb));have hne:∀ c q,lab c=q->q≠3->¬ i.fv.ownBlock=some c:=(fun c q e h2 e2=>h2 (by rw[<- e];exact h.l3 c e2));have hkeep:∀ c q,lab c=q->q≠0->q≠3->w3.heap[c]?=W.heap[c]?:=fun c q e h0 h1=>hchg.block c (h.lt c (by rw[e];exact h0)) (hne c q e h1)
 have hext:Ext W lab (addL1 lab (some g) 3):=addL1_ext (fun b hb=>by
  cases hb;rcases own with h1|h1
  ·exact .inl (h.l3 g h1)
  ·exact .inr h1)
 have heq:=addL1_eq h.lt hext;have e:∀ b q,lab b=q->q≠0->addL1 lab (some g) 3 b=q:=fun b q h1 h2=>by rw[heq b (by rw[h1];exact h2),h1]
 have hr3:HRow w3 0 3 1 (.slice (some ⟨g,0,none⟩) (i.free.length+1) cap) (i.free.length+1) ((i.free++[p]).map ivn):=by
  have e2:(i.free++[p]).map ivn=((i.free.map fun q:Nat=>(q:Int))++[(p:Int)]).map iv:=(by simp);rw[e2];have e3:((i.free.map fun q:Nat=>(q:Int))++[(p:Int)]).length=i.free.length+1:=by simp
  have:=r3
  unfold Ro at this;rw[e3] at this;exact this
 have hbox3:=(hkeep tb 1 h.l1 (by decide) (by decide)).trans h.box
 have hM3:TbR w3 tb t next { i with fv:=.slice (some ⟨g,0,none⟩) (i.free.length+1) cap,free:=i.free++[p] } (addL1 lab (some g) 3):=by
  refine⟨h.form.tn htn,h.cols.tn htn rfl,fun j hj=>(h.col j hj).tn htn (hne _ _ (h.l6 j hj) (by omega)) (fun c hc=>hne _ _ (h.l7 j hj c hc) (by omega)),h.place.of (fun c hc=>hkeep c 2 (h.l2 c hc) (by decide) (by decide)),h.pm,?_,h.gone.tn htn,h.late.of (fun c hc=>hkeep c 4 (h.l4 c hc) (by decide) (by decide)),
   e _ _ h.l1 (by decide),fun b hb=>e _ _ (h.l2 b hb) (by decide),fun b hb=>?_,fun b hb=>e _ _ (h.l4 b hb) (by decide),fun j hj=>e _ _ (h.l6 j hj) (by omega),fun j hj b hb=>e _ _ (h.l7 j hj b hb) (by omega),addL1_lt h.lt htn.size (fun b hb=>by cases hb;exact (hr3.lt g rfl).2)⟩
  ·have e3:(i.free++[p]).length=i.free.length+1:=(by simp);show HRow w3 0 3 1 _ (i.free++[p]).length _;rw[e3];exact hr3
  ·cases hb;exact addL1_own g rfl
 have hl1:addL1 lab (some g) 3 tb=1:=e _ _ h.l1 (by decide);have htn2:Tn (fun b=>b=tb) w3 (w3.setCell ⟨tb,6,none⟩ (.slice (some ⟨g,0,none⟩) (i.free.length+1) cap)):=Tn.of_chg ((Chg.refl (fun b=>b=tb) w3).setCell (p:=⟨tb,6,none⟩) (fun _=>rfl) _) (fun b _ hb=>.inl (by rw[hb];exact⟨_,115,hbox3,rfl⟩));have h4:=hM3.tn htn2 (fun b hb=>.inr (by rw[hb];exact hl1));refine⟨g,cap,w3,hrun,lt_of_heap hbox3,frozen_of_row w3 tb 6 _ _ hbox3,⟨_,nd_cell hbox3 6⟩,_,⟨h4,heap_setCell_same _ tb 6 _ _ _ hbox3⟩,hext,htn.trans htn2 (fun b _ hb=>by show lab b≠0;rw[h.l3 b hb];decide) (fun b _ hb=>by show lab b≠0;rw[show b=tb from hb,h.l1];decide)⟩
theorem TbM.addlate (h:TbM W tb t next i lab) (x:Int) (hl:i.late.length<=10000) :
  ∃ g cap w3,(Builtin.append_ #[30,30] 30 #[i.lv,.slice (some ⟨W.heap.size,0,none⟩) 1 1]).run Tryz.prog (W.alloc (.cells #[.int .i64 x] 3))=.ok (.slice (some ⟨g,0,none⟩) (i.late.length+1) cap) w3/\tb<w3.heap.size/\w3.frozen? ⟨tb,8,none⟩=false/\(∃ u,w3.cell? ⟨tb,8,none⟩=some u) /\
   ∃ lab',TbM (w3.setCell ⟨tb,8,none⟩ (.slice (some ⟨g,0,none⟩) (i.late.length+1) cap)) tb t next { i with lv:=.slice (some ⟨g,0,none⟩) (i.late.length+1) cap,late:=i.late++[x] } lab'/\Ext W lab lab'/\Tn (fun b=>lab b≠0) W (w3.setCell ⟨tb,8,none⟩ (.slice (some ⟨g,0,none⟩) (i.late.length+1) cap)):=by
 obtain⟨g,cap,w3,hrun,r3,g3,own⟩:=app_int 30 Tryz.underlying30 W 0 (n:=i.late.length) rfl h.late (by omega) (Nat.zero_le _) x
 have hty:∀ b,i.lv.ownBlock=some b->Ty W b:=fun b hb=>by
  obtain⟨_,cur,h1⟩:=h.late.block b hb;exact⟨cur,3,h1,rfl⟩
 have hchg:Chg (fun b=>i.lv.ownBlock=some b) W w3:=(Chg.refl _ W).grown g3 (fun k hk _=>hk);have htn:Tn (fun b=>i.lv.ownBlock=some b) W w3:=Tn.of_chg hchg (fun b _ hb=>.inl (hty b hb));have hne:∀ c q,lab c=q->q≠4->¬ i.lv.ownBlock=some c:=(fun c q e h2 e2=>h2 (by rw[<- e];exact h.l4 c e2));have hkeep:∀ c q,lab c=q->q≠0->q≠4->w3.heap[c]?=W.heap[c]?:=fun c q e h0 h1=>hchg.block c (h.lt c (by rw[e];exact h0)) (hne c q e h1)
 have hext:Ext W lab (addL1 lab (some g) 4):=addL1_ext (fun b hb=>by
  cases hb;rcases own with h1|h1
  ·exact .inl (h.l4 g h1)
  ·exact .inr h1)
 have heq:=addL1_eq h.lt hext;have e:∀ b q,lab b=q->q≠0->addL1 lab (some g) 4 b=q:=(fun b q h1 h2=>by rw[heq b (by rw[h1];exact h2),h1]);have e3:(i.late++[x]).length=i.late.length+1:=by simp
 have hr3:HRow w3 0 3 1 (.slice (some ⟨g,0,none⟩) (i.late.length+1) cap) (i.late.length+1) ((i.late++[x]).map iv):=by
  have:=r3
  unfold Ro at this;rw[e3] at this;exact this
 have hbox3:=(hkeep tb 1 h.l1 (by decide) (by decide)).trans h.box
 have hM3:TbR w3 tb t next { i with lv:=.slice (some ⟨g,0,none⟩) (i.late.length+1) cap,late:=i.late++[x] } (addL1 lab (some g) 4):=by
  refine⟨h.form.tn htn,h.cols.tn htn rfl,fun j hj=>(h.col j hj).tn htn (hne _ _ (h.l6 j hj) (by omega)) (fun c hc=>hne _ _ (h.l7 j hj c hc) (by omega)),h.place.of (fun c hc=>hkeep c 2 (h.l2 c hc) (by decide) (by decide)),h.pm,h.free.of (fun c hc=>hkeep c 3 (h.l3 c hc) (by decide) (by decide)),h.gone.tn htn,?_,
   e _ _ h.l1 (by decide),fun b hb=>e _ _ (h.l2 b hb) (by decide),fun b hb=>e _ _ (h.l3 b hb) (by decide),fun b hb=>?_,fun j hj=>e _ _ (h.l6 j hj) (by omega),fun j hj b hb=>e _ _ (h.l7 j hj b hb) (by omega),addL1_lt h.lt htn.size (fun b hb=>by cases hb;exact (hr3.lt g rfl).2)⟩
  ·show HRow w3 0 3 1 _ (i.late++[x]).length _;rw[e3];exact hr3
  ·cases hb;exact addL1_own g rfl
 have hl1:addL1 lab (some g) 4 tb=1:=e _ _ h.l1 (by decide);have htn2:Tn (fun b=>b=tb) w3 (w3.setCell ⟨tb,8,none⟩ (.slice (some ⟨g,0,none⟩) (i.late.length+1) cap)):=Tn.of_chg ((Chg.refl (fun b=>b=tb) w3).setCell (p:=⟨tb,8,none⟩) (fun _=>rfl) _) (fun b _ hb=>.inl (by rw[hb];exact⟨_,115,hbox3,rfl⟩));have h4:=hM3.tn htn2 (fun b hb=>.inr (by rw[hb];exact hl1));refine⟨g,cap,w3,hrun,lt_of_heap hbox3,frozen_of_row w3 tb 8 _ _ hbox3,⟨_,nd_cell hbox3 8⟩,_,⟨h4,heap_setCell_same _ tb 8 _ _ _ hbox3⟩,hext,htn.trans htn2 (fun b _ hb=>by show lab b≠0;rw[h.l4 b hb];decide) (fun b _ hb=>by show lab b≠0;rw[show b=tb from hb,h.l1];decide)⟩
theorem TbM.setgone (h:TbM W tb t next i lab) {p:Option Addr} {n c:Nat} {P:Int->Bool} (hv:Vm W (.slice p n c) P) :
  TbM ((W.setCell ⟨tb,7,none⟩ (.slice p n c)).setCell ⟨tb,8,none⟩ (.slice none 0 0)) tb t next { i with gv:=.slice p n c,G:=P,lv:=.slice none 0 0,late:=[] } lab/\Tn (fun b=>lab b≠0) W ((W.setCell ⟨tb,7,none⟩ (.slice p n c)).setCell ⟨tb,8,none⟩ (.slice none 0 0)):=by
 have htn:=Tn.own h 7 (.slice p n c);have h2:=h.toTbR.tn htn (fun b hb=>.inr hb);have h3:TbM (W.setCell ⟨tb,7,none⟩ (.slice p n c)) tb t next { i with gv:=.slice p n c,G:=P } lab:=⟨⟨h2.form,h2.cols,h2.col,h2.place,h2.pm,h2.free,hv.tn htn,h2.late,h2.l1,h2.l2,h2.l3,h2.l4,h2.l6,h2.l7,h2.lt⟩,heap_setCell_same _ tb 7 _ _ _ h.box⟩;have htn2:=Tn.own h3 8 (.slice none 0 0);have h4:=h3.toTbR.tn htn2 (fun b hb=>.inr hb);refine⟨⟨⟨h4.form,h4.cols,h4.col,h4.place,h4.pm,h4.free,h4.gone,HRow.nil,h4.l1,h4.l2,h4.l3,fun b hb=>(by cases hb),h4.l6,h4.l7,h4.lt⟩,heap_setCell_same _ tb 8 _ _ _ h3.box⟩,htn.trans htn2 (fun b _ hb=>by show lab b≠0;rw[show lab b=1 from hb];decide) (fun b _ hb=>by show lab b≠0;rw[show lab b=1 from hb];decide)⟩
end
