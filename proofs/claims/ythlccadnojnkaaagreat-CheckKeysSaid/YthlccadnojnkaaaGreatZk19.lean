import Derived.Test.YthlccadnojnkaaaGreatZk11
import Derived.Test.YthlccadnojnkaaaGreatZk17
import Derived.Test.YthlccadnojnkaaaGreatZk18
import Derived.Test.YthlccadnojnkaaaGreatZk16
import Derived.Laws.OwnMore
set_option maxHeartbeats 2000000
set_option maxRecDepth 100000
namespace Go.Proofs.YthlccadnojnkaaaGreat
open Go Go.RowKit Go.Proofs Co Co.S
structure Tn (S:Nat->Prop) (W W':World):Prop where
 chg:Chg S W W'
 kp:∀ (b:Nat) (cur:Array Value) (e:TypeId) (m:Nat×Nat),W.heap[b]?=some (Obj.cells cur e m)->mtT e=false->W'.heap[b]?=some (Obj.cells cur e m)
section
variable {S S1 T1:Nat->Prop} {W W' W'':World}
theorem Tn.of_below (h:Below W.heap.size W W'):Tn S W W':=⟨Chg.of_below h,fun b _ _ _ hb _=>(h.block b (aC hb)).trans hb⟩
theorem Tn.refl (S:Nat->Prop) (W:World):Tn S W W:=Tn.of_below (Below.refl _ _)
theorem Tn.trans (h:Tn S W W') (k:Tn S1 W' W'') (h1:∀ b,b<W.heap.size->S b->T1 b) (h2:∀ b,b<W.heap.size->S1 b->T1 b):Tn T1 W W'' :=
 ⟨h.chg.trans k.chg h1 h2,fun b cur e m hb he=>k.kp b cur e m (h.kp b cur e m hb he) he⟩
theorem Tn.mono (h:Tn S W W') (hs:∀ b,b<W.heap.size->S b->T1 b):Tn T1 W W':=⟨h.chg.mono hs,h.kp⟩
theorem Tn.of_chg (h:Chg S W W') (hs:∀ b,b<W.heap.size->S b->Ty W b∨∃ es ck,W.heap[b]?=some (.map es ck)):Tn S W W':=by
 classical
 refine⟨h,fun b cur e m hb he=>?_⟩;by_cases hS:S b
 ·rcases hs b (aC hb) hS with ⟨cs,ty,h1,h2⟩ | ⟨es,ck,h1⟩
  ·rw[hb] at h1;cases h1;rw[he] at h2;cases h2
  rw[hb] at h1;cases h1
 exact (h.block b (aC hb) hS).trans hb
theorem Tn.kpX (h:Tn S W W'):Kp W W':=fun b cur e m hb _ h2=>h.kp b cur e m hb (by
 unfold mt at h2;simp at h2
 have h3:e=95∨e=9∨e=124:=by
  by_cases a:e=95
  ·exact .inl a
  by_cases b:e=9
  ·exact .inr (.inl b)
  ·exact .inr (.inr (h2 a b))
 rcases h3 with rfl|rfl|rfl <;> rfl)
theorem Tn.size (h:Tn S W W'):W.heap.size<=W'.heap.size:=h.chg.size
theorem HRow.tn {base:Nat} {e:TypeId} {size:Nat} {v:Value} {n:Nat} {xs:List Value} (h:HRow W base e size v n xs) (hk:Tn S W W') (he:mtT e=false):HRow W' base e size v n xs :=
 h.of fun k hk2=>by
  obtain⟨_,cur,hb⟩:=h.block k hk2;rw[hk.kp k _ _ _ hb he,hb]
theorem OwnT.tn {base:Nat} {cv dv:Value} {t:T} {ps:List Value} (h:OwnT W base cv dv t ps) (hk:Tn S W W'):OwnT W' base cv dv t ps :=
 ⟨h.c.tn hk rfl,h.n,h.d.tn hk rfl,fun j a b=>(h.l j a b).tn hk rfl⟩
theorem Vm.tn {v:Value} {P:Int->Bool} (h:Vm W v P) (hk:Tn S W W'):Vm W' v P:=by
 obtain⟨l,h1,h2,h3⟩:=h;exact⟨l,HRow.tn h1 hk rfl,h2,h3⟩
theorem Co.S.Col.tn {cb:Nat} {kind:Int} {l:List T3} {v:Value} (h:Col cb kind l v W) (hk:Tn S W W') (h1:¬ S cb) (h2:∀ b,v.ownBlock=some b->¬ S b):Col cb kind l v W':=by
 obtain⟨⟨L,W0,hm,hc⟩,hr,ho⟩:=h;have e:W'.heap[cb]?=W.heap[cb]?:=hk.chg.block cb hm.lt h1;obtain⟨cv,m,q⟩:=hm.dm.mp;obtain⟨t,p,r1,r2,r3⟩:=m.rt
 refine⟨⟨L,W0,⟨(World.cell?_of_block (w:=W) e).trans hm.c0,(World.cell?_of_block (w:=W) e).trans hm.c1,⟨⟨cv,⟨m.dm,(World.cell?_of_block (w:=W) e).trans m.c0,⟨t,p,(World.cell?_of_block (w:=W) e).trans r1,Tr.of_nodes (fun b cs hb=>?_) r2,r3⟩,fun j=>(World.frozen?_of_block (w:=W) e).trans (m.fz j),m.srt,
  m.bel.trans ⟨hk.chg.os,hk.chg.tape,hk.chg.output,hk.chg.size,fun k hk=>absurd hk (Nat.not_lt_zero _)⟩,m.ty.of e⟩,q⟩,hm.dm.pos,hm.dm.len⟩,(World.cell?_of_block (w:=W) e).trans hm.c4⟩,hc⟩,hr.of (fun k hk2=>hk.chg.block k (hr.lt k hk2).2 (h2 k hk2)),ho⟩
 rw[hk.kp b cs 220 _ hb rfl,hb]
theorem Co.S.Col.ty {cb:Nat} {kind:Int} {l:List T3} {v:Value} (h:Col cb kind l v W):Ty W cb/\∀ b,v.ownBlock=some b->Ty W b:=by
 obtain⟨⟨L,W0,hm,hc⟩,hr,ho⟩:=h;refine⟨hm.dm.ty,fun b hb=>?_⟩;obtain⟨_,cur,h1⟩:=hr.block b hb;exact⟨cur,32,h1,rfl⟩
theorem Co.S.Col.rlt {cb:Nat} {kind:Int} {l:List T3} {v:Value} (h:Col cb kind l v W):∀ b,v.ownBlock=some b->b<W.heap.size:=fun b hb=>(h.row.lt b hb).2
end
abbrev ivn (p:Nat):Value:=.int .i64 (p:Int)
abbrev ptrs (cb:Nat->Nat) (n:Nat):List Value:=(List.range n).map fun k=>(Value.pointer (some ⟨cb k,0,none⟩))
structure In where
 fc:Value
 fd:Value
 cv:Value
 pv:Value
 fv:Value
 gv:Value
 lv:Value
 ps:List Value
 cb:Nat->Nat
 v:Nat->Value
 f:Int->Option Nat
 np:Nat
 m:Nat
 free:List Nat
 late:List Int
 G:Int->Bool
 cl:Nat->List T3
abbrev boxTb (t:T) (i:In) (next:Nat):Obj:=.cells #[.string t.nm,i.fc,.string t.key,i.fd,i.cv,i.pv,i.fv,i.gv,i.lv,(Value.int .i64 ((next:Int)))] 116
structure TbR (W:World) (tb:Nat) (t:T) (next:Nat) (i:In) (lab:Nat->Nat):Prop where
 form:OwnT W 0 i.fc i.fd t i.ps
 cols:HRow W 0 131 1 i.cv t.cols.length (ptrs i.cb t.cols.length)
 col:∀ k (h:k<t.cols.length),Col (i.cb k) t.cols[k].kd (i.cl k) (i.v k) W
 place:Pm W i.pv i.f i.np i.m
 pm:i.m<=next
 free:HRow W 0 3 1 i.fv i.free.length (i.free.map ivn)
 gone:Vm W i.gv i.G
 late:HRow W 0 3 1 i.lv i.late.length (i.late.map iv)
 l1:lab tb=1
 l2:∀ b,mapBlock i.pv=some b->lab b=2
 l3:∀ b,i.fv.ownBlock=some b->lab b=3
 l4:∀ b,i.lv.ownBlock=some b->lab b=4
 l6:∀ k,k<t.cols.length->lab (i.cb k)=6+2*k
 l7:∀ k,k<t.cols.length->∀ b,(i.v k).ownBlock=some b->lab b=7+2*k
 lt:∀ b,lab b≠0->b<W.heap.size
structure TbM (W:World) (tb:Nat) (t:T) (next:Nat) (i:In) (lab:Nat->Nat):Prop extends TbR W tb t next i lab where
 box:W.heap[tb]?=some (boxTb t i next)
section
variable {W W':World} {tb next:Nat} {t:T} {i:In} {lab lab':Nat->Nat}
theorem TbR.tlt (h:TbR W tb t next i lab):tb<W.heap.size:=h.lt tb (by rw[h.l1];decide)
theorem TbR.tn {S:Nat->Prop} (h:TbR W tb t next i lab) (hk:Tn S W W') (hs:∀ b,S b->lab b=0∨lab b=1):TbR W' tb t next i lab:=by
 have hn:∀ b,lab b≠0->lab b≠1->¬ S b:=(fun b hb hc hS=>(hs b hS).elim hb hc);have hb:∀ b,lab b≠0->lab b≠1->W'.heap[b]?=W.heap[b]?:=fun b hb hc=>hk.chg.block b (h.lt b hb) (hn b hb hc)
 exact⟨h.form.tn hk,h.cols.tn hk rfl,fun k hkl=>(h.col k hkl).tn hk (hn _ (by rw[h.l6 k hkl];omega) (by rw[h.l6 k hkl];omega)) (fun b hbb=>hn _ (by rw[h.l7 k hkl b hbb];omega) (by rw[h.l7 k hkl b hbb];omega)),
  h.place.of (fun b hbb=>hb b (by rw[h.l2 b hbb];decide) (by rw[h.l2 b hbb];decide)),h.pm,h.free.of (fun b hbb=>hb b (by rw[h.l3 b hbb];decide) (by rw[h.l3 b hbb];decide)),h.gone.tn hk,h.late.of (fun b hbb=>hb b (by rw[h.l4 b hbb];decide) (by rw[h.l4 b hbb];decide)),h.l1,h.l2,h.l3,h.l4,h.l6,h.l7,fun b hbb=>Nat.lt_of_lt_of_le (h.lt b hbb) hk.size⟩
theorem TbM.tn {S:Nat->Prop} (h:TbM W tb t next i lab) (hk:Tn S W W') (hs:∀ b,S b->lab b=0):TbM W' tb t next i lab :=
 ⟨h.toTbR.tn hk (fun b hb=>.inl (hs b hb)),(hk.chg.block tb h.tlt (fun hS=>by have:=hs tb hS;rw[h.l1] at this;cases this)).trans h.box⟩
theorem TbM.later (h:TbM W tb t next i lab) (hb:Below W.heap.size W W'):TbM W' tb t next i lab:=h.tn (S:=fun _=>False) (Tn.of_below hb) (fun _ h=>h.elim)
theorem TbM.ty (h:TbM W tb t next i lab):Ty W tb:=⟨_,116,h.box,rfl⟩
theorem TbM.tlt (h:TbM W tb t next i lab):tb<W.heap.size:=h.toTbR.tlt
theorem TbM.cells (h:TbM W tb t next i lab):W.cell? ⟨tb,0,none⟩=some (.string t.nm)/\W.cell? ⟨tb,1,none⟩=some i.fc/\W.cell? ⟨tb,2,none⟩=some (.string t.key)/\W.cell? ⟨tb,3,none⟩=some i.fd/\W.cell? ⟨tb,4,none⟩=some i.cv /\
  W.cell? ⟨tb,5,none⟩=some i.pv/\W.cell? ⟨tb,6,none⟩=some i.fv/\W.cell? ⟨tb,7,none⟩=some i.gv/\W.cell? ⟨tb,8,none⟩=some i.lv/\W.cell? ⟨tb,9,none⟩=some (Value.int .i64 ((next:Int))) :=
 ⟨aA h.box 0,aA h.box 1,aA h.box 2,aA h.box 3,aA h.box 4,aA h.box 5,aA h.box 6,aA h.box 7,aA h.box 8,aA h.box 9⟩
theorem TbM.fz (h:TbM W tb t next i lab) (j:Nat):W.frozen? ⟨tb,j,none⟩=false:=frozen_of_row W tb j _ _ h.box
def Ext (W:World) (lab lab':Nat->Nat):Prop:=∀ b,b<W.heap.size->lab' b=lab b
theorem Ext.refl (W:World) (lab:Nat->Nat):Ext W lab lab:=fun _ _=>rfl
theorem Ext.trans {lab'':Nat->Nat} (h:Ext W lab lab') (hs:W.heap.size<=W'.heap.size) (k:Ext W' lab' lab''):Ext W lab lab'':=fun b hb=>(k b (Nat.lt_of_lt_of_le hb hs)).trans (h b hb)
theorem Tn.own (h:TbM W tb t next i lab) (j:Nat) (u:Value):Tn (fun b=>lab b=1) W (W.setCell ⟨tb,j,none⟩ u):=by
 have hc:Chg (fun b=>b=tb) W (W.setCell ⟨tb,j,none⟩ u):=(Chg.refl (fun b=>b=tb) W).setCell (p:=⟨tb,j,none⟩) (fun _=>rfl) u;exact (Tn.of_chg hc (fun b _ hb=>.inl (hb▸h.ty))).mono (fun b _ hb=>hb▸h.l1)
end
def colV (c:C):Value:=.agg #[.string c.nm,.int .i64 c.kd,.bool c.mu,.string c.tgt]
section
variable {W W':World} {tb next:Nat} {t:T} {i:In} {lab:Nat->Nat}
theorem fB (h:TbM W tb t next i lab) {x:Int} (hx:F64 x):Calls Tryz.prog 72 #[.pointer (some ⟨tb,0,none⟩),.int .i64 x] W fun e w'=>e=.returned (.tuple #[.int .i64 (((i.f x).getD 0:Nat):Int),.bool (i.f x).isSome])/\w'=W:=by
 have hl:=h.place.look hx;obtain⟨_,_,_,_,_,c5,_⟩:=h.cells;have zl:=h.tlt;generalize (((i.f x).getD 0:Nat):Int)=p at hl ⊢;generalize (i.f x).isSome=ok at hl ⊢;generalize i.pv=pv at c5 hl;clear h hx;go_enter Tryz.func72,Tryz.ntmps72;go_wp2_with (at_lookup;refine sW rfl (.tmp 14) (.tmp 15) 114 true rfl rfl rfl hl ?_);go_ret2;exact⟨rfl,rfl⟩
theorem aBd {c:C} {x:ByteArray} {b:Nat} {w:World} (h:w.cell? ⟨b,0,none⟩=some (.string x)):Calls Tryz.prog 114 #[colV c,.pointer (some ⟨b,0,none⟩)] w fun e w'=>e=.returned (.bool (isC x c))/\Below w.heap.size w w':=by
 have hlt:b<w.heap.size:=World.block_lt_of_cell? w ⟨b,0,none⟩ h;have hx2:(c.nm.toList==x.toList)=isC x c:=(by rw[aR];rfl);generalize isC x c=r at hx2 ⊢;unfold colV;go_enter Tryz.func114,Tryz.ntmps114
 go_wp2
 go_ret;exact⟨rfl,aD w _⟩
theorem aEY {l:List C} {v:Value} {x:ByteArray} {b:Nat} {W:World} (h:RdC W v l) (hb:W.cell? ⟨b,0,none⟩=some (.string x)):Calls Tryz.prog 113 #[v,.func (.func 114) #[] #[.pointer (some ⟨b,0,none⟩)]] W fun e w'=>e=.returned (.int .i64 (ixC l x))/\Below W.heap.size W w':=by
 obtain⟨pc,cc,hcv,hc,hm⟩:=h.slice;obtain⟨n,hn⟩:∃ n,l.length=n:=⟨_,rfl⟩;unfold maxLen at hm;rw[hn] at hcv hc;subst hcv;have hbl:b<W.heap.size:=World.block_lt_of_cell? W ⟨b,0,none⟩ hb;have HN:=qAq hn;have HW:=qAq (qBq h (qBq hb hbl));have hent:=enters_of Tryz.func114 (by kernel_rfl) rfl;clear h hb hn hbl;go_enter Tryz.func113,Tryz.ntmps113;go_wp2_with fail;go_loopg [8] (n+1) (fun gh jv w=>∃ (j:Nat),jv=.int .i64 (j:Int)/\j<=n/\n+1<=j+gh/\(∀ i (h:i<l.length),i<j->isC x l[i]=false)/\Below W.heap.size W w)
 case atStart=>exact⟨0,rfl,Nat.zero_le _,by omega,fun i _ hi=>by omega,Below.refl _ _⟩
 obtain⟨j,rfl,hj,hg,hno,hB⟩:=hrel;have HI:=qAq (qBq hno hB);by_cases hlt:j<n
 ·have hjl:j<l.length:=(by rw[HN.out];exact hlt);obtain⟨bc,off,rfl,hbc,c0,c1,c2,c3⟩:=RdC.col (HW.out.1.later hB) hjl;have hcell:wr.cell? ⟨b,0,none⟩=some (.string x):=(World.cell?_of_block (w:=W) (hB.block b HW.out.2.2)).trans HW.out.2.1;have hcall:=aBd (c:=l[j]) hcell;obtain⟨c,hcj⟩:∃ c,l[j]=c:=⟨_,rfl⟩;rw[hcj] at c0 c1 c2 c3 hcall;have HC:=qAq hcj;have hji:(j:Int)<(n:Int):=(by omega);clear hcj hno hB hcell;unfold colV at hcall;cases hx:isC x c
  ·have HX:=qAq hx;rw[hx] at hcall;clear hx;go_wp2_with (go_at_call 114;(with_reducible refine hcall.mono ?_);rintro e w2 ⟨rfl,hb2⟩);have HB2:=qAq hb2;go_roundg (n-j)
   case measure=>omega
   refine⟨j+1,by go_num,by omega,by omega,fun i hi hij=>?_,aB HI.out.2 HB2.out⟩;by_cases e:i=j
   ·subst e;rw[HC.out];exact HX.out
   exact HI.out.1 i hi (by omega)
  have HX:=qAq hx;rw[hx] at hcall;clear hx;go_wp2_with (go_at_call 114;(with_reducible refine hcall.mono ?_);rintro e w2 ⟨rfl,hb2⟩);go_ret;exact⟨aQ (wY j (by rw[HN.out];exact hlt) (by rw[HC.out];exact HX.out) (fun i hi=>HI.out.1 i _ hi)).symm,aB HI.out.2 hb2⟩
 go_wp2_with fail;go_ret;exact⟨aQ (mQ (fun i hi=>HI.out.1 i hi (by have:=HN.out;omega))).symm,HI.out.2⟩
theorem fO (h:TbM W tb t next i lab) (x:ByteArray):Calls Tryz.prog 76 #[.pointer (some ⟨tb,0,none⟩),.string x] W fun e w'=>e=.returned (.tuple #[.int .i64 (ixC t.cols x),.bool (decide (0<=ixC t.cols x))])/\Below W.heap.size W w':=by
 have hb:=aD W (.cells #[.string x] 9);have hk:=aA (heap_alloc_new W (.cells #[.string x] 9)) 0;have h1:=h.later hb;have hcall:=aEY (x:=x) h1.form.rd.1 hk;obtain⟨_,c1,_⟩:=h1.cells;have zl:=h1.tlt;have HB:=qAq hb;obtain⟨w1,hw1⟩:∃ w1,W.alloc (.cells #[.string x] 9)=w1:=⟨_,rfl⟩;obtain⟨B,hBB⟩:∃ B,W.heap.size=B:=⟨_,rfl⟩;rw[hw1] at c1 zl hcall HB;rw[hBB] at hcall;generalize ixC t.cols x=z at hcall ⊢;generalize i.fc=fc at c1 hcall;have hz:(z≥0)=(0<=z):=rfl;have HW:=qAq (qBq hw1 hBB);clear h h1 hb hk hw1 hBB;go_enter Tryz.func76,Tryz.ntmps76;go_upto_region 1 with fail;rw[HW.out.1,HW.out.2];go_wp2_with (go_at_call 113;(with_reducible refine hcall.mono ?_);rintro e w2 ⟨rfl,hb2⟩);go_ret2;exact⟨rfl,aB HB.out hb2⟩
theorem gZ (h:TbM W tb t next i lab) (j:Nat) (hj:j<t.cols.length) (k n1:Int) (s:ByteArray) (hs:s.size<=maxLen):Calls Tryz.prog 77 #[.pointer (some ⟨tb,0,none⟩),.int .i64 (j:Int),.agg #[.int .i64 (k),.int .i64 (n1),.string (s)]] W fun e w'=>e=.returned (.bool (inC t.cols[j].kd (k,n1,s)))/\Below W.heap.size W w':=by
 have hb:=aD W (.cells #[.int .i64 k,.int .i64 n1,.string s] 32);have hk:=heap_alloc_new W (.cells #[.int .i64 k,.int .i64 n1,.string s] 32);have h1:=h.later hb;obtain⟨pc,cc,hcv,hc,hm⟩:=h.form.rd.1.slice;obtain⟨n,hn⟩:∃ n,t.cols.length=n:=⟨_,rfl⟩;have hr:=h1.form.rd.1;rw[hcv] at hr;obtain⟨cb,oc,rfl,hbc,_⟩:=RdC.col hr hj;obtain⟨kd,hkd⟩:∃ kd,t.cols[j].kd=kd:=⟨_,rfl⟩;obtain⟨w1,hw1⟩:∃ w1,W.alloc (.cells #[.int .i64 k,.int .i64 n1,.string s] 32)=w1:=⟨_,rfl⟩;obtain⟨B,hBB⟩:∃ B,W.heap.size=B:=⟨_,rfl⟩;rw[hw1] at h1 hk hb hr hbc;rw[hBB] at hk hb;have hst:B<=w1.heap.size:=hBB▸hb.size;rw[hn] at hr hcv hc
 have HX:Hid (∀ w,Below w1.heap.size w1 w->w.cell? ⟨B,0,none⟩=some (.int .i64 k)/\w.cell? ⟨B,1,none⟩=some (.int .i64 n1)/\w.cell? ⟨B,2,none⟩=some (.string s)/\w.cell? ⟨tb,1,none⟩=some (.slice (some ⟨cb,oc,none⟩) n cc)/\w.cell? ⟨cb,oc+j*4+1,none⟩=some (.int .i64 kd)/\w.heap[B]?=some (.cells #[.int .i64 k,.int .i64 n1,.string s] 32)):=qAq (fun w hw=>by
  have hB2:=aE hw hk;refine⟨aA hB2 0,aA hB2 1,aA hB2 2,?_,?_,hB2⟩
  ·rw[<- hcv];exact (h1.later hw).cells.2.1
  rw[<- hkd];exact (RdC.colAt (hr.later hw) hj).2.2.1)
 have HW:=qAq (qBq hw1 hBB);have HB:=qAq (show Below W.heap.size W w1 by rw[hBB];exact hb);have HS:=qAq (show W.heap.size<=w1.heap.size by rw[hBB];exact hst);have zn:tb<w1.heap.size:=h1.tlt;have hji:(j:Int)<(n:Int):=(by omega);have hcl:cb<w1.heap.size:=hbc;unfold maxLen at hm;rw[hkd];unfold inC;simp only;clear h h1 hr hk hb hcv hst hw1 hBB hn hkd hbc;generalize hmy:mayV k n1 s.data.toList=may;have HM:=qAq hmy;have hmay:=(fun w=>aAP k n1 s w hs);rw[hmy] at hmay;clear hmy;cases may with
 | false =>
  simp only[Bool.false_and];go_enter Tryz.func77,Tryz.ntmps77;go_upto_region 1 with fail;rw[HW.out.1,HW.out.2];refine Par.wp_region_par 21 [.agg #[.int .i64 k,.int .i64 n1,.string s],.bool false,.bool false,undef,undef,undef,undef,undef,undef,undef,undef,undef,undef,undef,undef,undef,undef,undef,undef,undef,.bool false] (fun w=>Below w1.heap.size w1 w) ?A1 ?hm1 ?hB1 ?hA1 ((Below.refl _ _).drew) ?hop1 ?hT1
  case hm1=>kernel_rfl
  case hB1=>kernel_rfl
  case hA1 =>
   simp only[Par.putA,Par.dstAt,Act.put,qDq,qEq,qFq,qLq,qGq,qHq,qIq,qJq,qKq];rfl
  case hop1 =>
   simp only[qMq,List.take_zero,Par.GiveAll,and_true];and_intros<;>intro w' hR<;>have HR:=qAq hR
   have b0:=(HX.out w' hR).1;have b1:=(HX.out w' hR).2.1;have b2:=(HX.out w' hR).2.2.1;rotate_left
   ·clear hR;simp only[Par.Gives];go_simp;exact (hmay w').mono (fun e w'' ⟨he,hb⟩=>⟨he,aB HR.out hb⟩)
   rotate_left 19
   all_goals(clear hR;simp only[Par.Gives];go_simp;all_goals exact HR.out)
  case hT1 =>
   intro w' hR;simp only[qNq,List.drop_zero];have hW:=HB.out.trans (hR.mono HS.out);clear hR;go_wp2_with fail;go_ret;exact⟨rfl,hW⟩
 | true =>
  by_cases h0:k=0
  ·have e0:(k==0)=true:=(by simp[h0]);have e0d:decide (k=0)=true:=decide_eq_true h0;rw[e0d];simp only[Bool.true_and,Bool.true_or];clear e0d h0;go_enter Tryz.func77,Tryz.ntmps77;go_upto_region 1 with fail;rw[HW.out.1,HW.out.2];refine Par.wp_region_par 21 [.agg #[.int .i64 k,.int .i64 n1,.string s],.bool true,.bool true,.pointer (some ⟨B,0,none⟩),.int .i64 k,.bool true,.bool true,undef,undef,undef,undef,undef,undef,undef,undef,undef,undef,undef,undef,.bool true,.bool true] (fun w=>Below w1.heap.size w1 w) ?A2 ?hm2 ?hB2 ?hA2 ((Below.refl _ _).drew) ?hop2 ?hT2
   case hm2=>kernel_rfl
   case hB2=>kernel_rfl
   case hA2 =>
    simp only[Par.putA,Par.dstAt,Act.put,qDq,qEq,qFq,qLq,qGq,qHq,qIq,qJq,qKq];rfl
   case hop2 =>
    simp only[qMq,List.take_zero,Par.GiveAll,and_true];and_intros<;>intro w' hR<;>have HR:=qAq hR
    have b0:=(HX.out w' hR).1;have b1:=(HX.out w' hR).2.1;have b2:=(HX.out w' hR).2.2.1;rotate_left
    ·clear hR;simp only[Par.Gives];go_simp;exact (hmay w').mono (fun e w'' ⟨he,hb⟩=>⟨he,aB HR.out hb⟩)
    rotate_left;have b0:=(HX.out w' hR).1;have zl:=aC (HX.out w' hR).2.2.2.2.2;rotate_left;have b0:=(HX.out w' hR).1;have zl:=aC (HX.out w' hR).2.2.2.2.2;rotate_left 17
    all_goals(clear hR;simp only[Par.Gives];go_simp;all_goals exact HR.out)
   case hT2 =>
    intro w' hR;simp only[qNq,List.drop_zero];have hW:=HB.out.trans (hR.mono HS.out);clear hR;go_wp2_with fail;go_ret;exact⟨rfl,hW⟩
  ·have e0:(k==0)=false:=(by simp[h0]);have e0d:decide (k=0)=false:=decide_eq_false h0;rw[e0d];simp only[Bool.true_and,Bool.false_or];have ee:(k==kd)=decide (k=kd):=(by rw[Bool.eq_iff_iff];simp);generalize decide (k=kd)=ke at ee ⊢;clear e0d h0;go_enter Tryz.func77,Tryz.ntmps77;go_upto_region 1 with fail;rw[HW.out.1,HW.out.2];refine Par.wp_region_par 21 [.agg #[.int .i64 k,.int .i64 n1,.string s],.bool true,.bool true,.pointer (some ⟨B,0,none⟩),.int .i64 k,.bool false,.bool false,.pointer (some ⟨B,0,none⟩),.int .i64 k,.pointer (some ⟨tb,0,none⟩),.pointer (some ⟨tb,0,none⟩),.pointer (some ⟨tb,0,none⟩),.pointer (some ⟨tb,1,none⟩),.slice (some ⟨cb,oc,none⟩) n cc,.int .i64 (j:Int),.pointer (some ⟨cb,oc+j*4,none⟩),.pointer (some ⟨cb,oc+j*4+1,none⟩),.int .i64 kd,.bool ke,.bool ke,.bool ke] (fun w=>Below w1.heap.size w1 w) ?A3 ?hm3 ?hB3 ?hA3 ((Below.refl _ _).drew) ?hop3 ?hT3
   case hm3=>kernel_rfl
   case hB3=>kernel_rfl
   case hA3 =>
    simp only[Par.putA,Par.dstAt,Act.put,qDq,qEq,qFq,qLq,qGq,qHq,qIq,qJq,qKq];rfl
   case hop3 =>
    simp only[qMq,List.take_zero,Par.GiveAll,and_true];and_intros<;>intro w' hR<;>have HR:=qAq hR
    have b0:=(HX.out w' hR).1;have b1:=(HX.out w' hR).2.1;have b2:=(HX.out w' hR).2.2.1;rotate_left
    ·clear hR;simp only[Par.Gives];go_simp;exact (hmay w').mono (fun e w'' ⟨he,hb⟩=>⟨he,aB HR.out hb⟩)
    rotate_left;have b0:=(HX.out w' hR).1;have zl:=aC (HX.out w' hR).2.2.2.2.2;rotate_left;have b0:=(HX.out w' hR).1;have zl:=aC (HX.out w' hR).2.2.2.2.2;rotate_left 3;have b0:=(HX.out w' hR).1;have zl:=aC (HX.out w' hR).2.2.2.2.2;rotate_left;have b0:=(HX.out w' hR).1;have zl:=aC (HX.out w' hR).2.2.2.2.2;rotate_left 5;have zt:=(HX.out w' hR).2.2.2.1;rotate_left 4;have zk:=(HX.out w' hR).2.2.2.2.1;rotate_left 4
    all_goals(clear hR;simp only[Par.Gives];go_simp;all_goals exact HR.out)
   case hT3 =>
    intro w' hR;simp only[qNq,List.drop_zero];have hW:=HB.out.trans (hR.mono HS.out);clear hR;go_wp2_with fail;go_ret;exact⟨rfl,hW⟩
end
abbrev R1:=Int×List T3
abbrev z3:T3:=(0,0,⟨#[]⟩)
def rowOf (cl:Nat->List T3) (n p:Nat):List T3:=(List.range n).map fun k=>((cl k)[p]?).getD z3
theorem cC (cl:Nat->List T3) (n p:Nat):(rowOf cl n p).length=n:=by simp[rowOf]
theorem cH (cl:Nat->List T3) {n p k:Nat} (h:k<n):(rowOf cl n p)[k]?=some (((cl k)[p]?).getD z3):=by simp[rowOf,h]
theorem mR {cl:Nat->List T3} {n p:Nat} {l:List T3} (hl:l.length=n) (h:∀ k,k<n->(cl k)[p]?=l[k]?):l=rowOf cl n p:=by
 apply List.ext_getElem?;intro k;by_cases hk:k<n
 ·rw[cH cl hk,h k hk,List.getElem?_eq_getElem (by omega)];rfl
 rw[List.getElem?_eq_none (by omega),List.getElem?_eq_none (by rw[cC];omega)]
theorem fP {cl cl':Nat->List T3} {n p:Nat} (h:∀ k,k<n->(cl' k)[p]?=(cl k)[p]?):rowOf cl n p=rowOf cl' n p:=by
 apply List.map_congr_left;intro k hk;rw[h k (List.mem_range.1 hk)]
structure Inv (n next:Nat) (i:In) (A:List R1):Prop where
 np:i.np=A.length
 lens:∀ k,k<n->(i.cl k).length=A.length+i.free.length
 srt:A.Pairwise (fun a b=>a.1<b.1)
 rng:∀ a∈A,0<=a.1/\a.1<next
 pl:∀ a∈A,∃ p,i.f a.1=some p/\p<A.length+i.free.length/\a.2=rowOf i.cl n p
 no:∀ x,(∀ a∈A,a.1≠x)->i.f x=none
 inj:∀ x y p,i.f x=some p->i.f y=some p->x=y
 fre:∀ p∈i.free,p<A.length+i.free.length/\(∀ x,i.f x≠some p)/\∀ k,k<n->(i.cl k)[p]?=some z3
 fnd:i.free.Nodup
 cov:∀ p,p<A.length+i.free.length->p∈i.free∨∃ a∈A,i.f a.1=some p
 gone:∀ x,(i.G x=true∨x∈i.late)↔(0<=x/\x<next/\∀ a∈A,a.1≠x)
 few:A.length+i.free.length<=next
 lat:i.late.length<=63
 lim:next<=65536
section
variable {n next:Nat} {i i':In} {A:List R1}
theorem Inv.atP {x:Int} {p:Nat} (h:Inv n next i A) (hf:i.f x=some p):∃ a∈A,a.1=x/\p<A.length+i.free.length/\a.2=rowOf i.cl n p:=by
 by_cases hx:∃ a∈A,a.1=x
 ·obtain⟨a,ha,rfl⟩:=hx;obtain⟨q,h1,h2,h3⟩:=h.pl a ha;rw[hf] at h1;cases h1;exact⟨a,ha,rfl,h2,h3⟩
 rw[h.no x (fun a ha e=>hx ⟨a,ha,e⟩)] at hf;cases hf
theorem Inv.is {x:Int} (h:Inv n next i A):(i.f x).isSome=true↔∃ a∈A,a.1=x:=by
 constructor
 ·intro hs;obtain⟨p,hp⟩:=Option.isSome_iff_exists.1 hs;obtain⟨a,h1,h2,_⟩:=h.atP hp;exact⟨a,h1,h2⟩
 rintro ⟨a,ha,rfl⟩;obtain⟨p,hp,_⟩:=h.pl a ha;rw[hp];rfl
theorem Inv.ins (h:Inv n next i A) {p:Nat} {vals:List T3} (hv:vals.length=n) (hn:next+1<=65536) (hnp:i'.np=i.np+1) (hf:i'.f=upF i.f next p) (hl:i'.late=i.late) (hG:i'.G=i.G)
  (hnf:∀ x,i.f x≠some p) (hfr:∀ q,q∈i'.free↔q∈i.free/\q≠p) (hnd:i'.free.Nodup) (hP:∀ q,q<A.length+1+i'.free.length↔(q<A.length+i.free.length∨q=p)) (hfew:A.length+1+i'.free.length<=next+1)
  (hlen:∀ k,k<n->(i'.cl k).length=A.length+1+i'.free.length) (h1:∀ k,k<n->(i'.cl k)[p]?=vals[k]?) (h2:∀ k,k<n->∀ q,q≠p->(i'.cl k)[q]?=(i.cl k)[q]?):Inv n (next+1) i' (A++[((next:Int),vals)]):=by
 have hA:(A++[((next:Int),vals)]).length=A.length+1:=(by simp);have hnx:∀ a∈A,a.1≠(next:Int):=(fun a ha=>by have:=(h.rng a ha).2;omega);refine⟨by rw[hA,hnp,h.np],fun k hk=>by rw[hA];exact hlen k hk,?_,?_,?_,?_,?_,?_,hnd,?_,?_,by rw[hA];exact hfew,by rw[hl];exact h.lat,hn⟩
 ·rw[List.pairwise_append];refine⟨h.srt,by simp,fun a ha b hb=>?_⟩;rw[List.mem_singleton.1 hb];exact (h.rng a ha).2
 ·intro a ha;rcases List.mem_append.1 ha with ha|ha
  ·have:=h.rng a ha;omega
  rw[List.mem_singleton.1 ha];exact⟨by simp only;omega,by simp only;omega⟩
 ·intro a ha;rw[hA,hf];rcases List.mem_append.1 ha with ha|ha
  ·obtain⟨q,q1,q2,q3⟩:=h.pl a ha;have hqp:q≠p:=(fun e=>hnf a.1 (by rw[q1,e]));refine⟨q,?_,(hP q).2 (.inl q2),?_⟩
   ·unfold upF;rw[if_neg (hnx a ha)];exact q1
   rw[q3];exact fP (fun k hk=>h2 k hk q hqp)
  rw[List.mem_singleton.1 ha];exact⟨p,by unfold upF;rw[if_pos rfl],(hP p).2 (.inr rfl),mR hv h1⟩
 ·intro x hx;rw[hf];unfold upF;rw[if_neg (fun e=>hx _ (List.mem_append.2 (.inr (List.mem_singleton.2 rfl))) e.symm)];exact h.no x (fun a ha=>hx a (List.mem_append.2 (.inl ha)))
 ·intro x y q hx hy;rw[hf] at hx hy;unfold upF at hx hy;by_cases ex:x=(next:Int) <;> by_cases ey:y=(next:Int)
  ·rw[ex,ey]
  ·rw[if_pos ex] at hx;rw[if_neg ey] at hy;cases hx;exact absurd hy (hnf y)
  ·rw[if_neg ex] at hx;rw[if_pos ey] at hy;cases hy;exact absurd hx (hnf x)
  rw[if_neg ex] at hx;rw[if_neg ey] at hy;exact h.inj x y q hx hy
 ·intro q hq;obtain⟨q1,q2⟩:=(hfr q).1 hq;obtain⟨q3,q4,q5⟩:=h.fre q q1;refine⟨by rw[hA];exact (hP q).2 (.inl q3),fun x=>?_,fun k hk=>(h2 k hk q q2).trans (q5 k hk)⟩;rw[hf];unfold upF;split
  ·intro e;cases e;exact q2 rfl
  exact q4 x
 ·intro q hq;rw[hA] at hq;rw[hf];by_cases e:q=p
  ·subst e;exact .inr ⟨_,List.mem_append.2 (.inr (List.mem_singleton.2 rfl)),by unfold upF;rw[if_pos rfl]⟩
  rcases h.cov q (((hP q).1 hq).resolve_right e) with h3|⟨a,ha,h3⟩
  ·exact .inl ((hfr q).2 ⟨h3,e⟩)
  exact .inr ⟨a,List.mem_append.2 (.inl ha),by unfold upF;rw[if_neg (hnx a ha)];exact h3⟩
 intro x;rw[hl,hG,h.gone x];constructor
 ·rintro ⟨g1,g2,g3⟩;refine⟨g1,by omega,fun a ha=>?_⟩;rcases List.mem_append.1 ha with ha|ha
  ·exact g3 a ha
  rw[List.mem_singleton.1 ha];simp only;omega
 rintro ⟨g1,g2,g3⟩
 have:=g3 _ (List.mem_append.2 (.inr (List.mem_singleton.2 rfl)))
 simp only at this;exact⟨g1,by omega,fun a ha=>g3 a (List.mem_append.2 (.inl ha))⟩
def without (A:List R1) (x:Int):List R1:=A.filter fun a=>decide (a.1≠x)
theorem bX {A:List R1} {x:Int} {a:R1}:a∈without A x↔a∈A/\a.1≠x:=by simp[without]
theorem sY {A:List R1} (hs:A.Pairwise (fun a b=>a.1<b.1)) {a:R1} (ha:a∈A):(without A a.1).length+1=A.length:=by
 induction A with
 | nil=>cases ha
 | cons c r ih =>
  rw[List.pairwise_cons] at hs;unfold without at ih ⊢;rcases List.mem_cons.1 ha with rfl|ha
  ·rw[List.filter_cons_of_neg (by simp)];rw[List.filter_eq_self.2 (fun b hb=>by have:=hs.1 b hb;simp;omega)];rfl
  ·have:=hs.1 a ha
   rw[List.filter_cons_of_pos (by simp;omega),List.length_cons,List.length_cons,ih hs.2 ha]
theorem Inv.del (h:Inv n next i A) {a:R1} (ha:a∈A) {p:Nat} (hp:i.f a.1=some p) (hnp:i'.np=i.np-1) (hf:i'.f=delF i.f a.1) (hfr:i'.free=i.free++[p])
  (hg:∀ x,(i'.G x=true∨x∈i'.late)↔((i.G x=true∨x∈i.late)∨x=a.1)) (hlat:i'.late.length<=63) (hcl:∀ k,k<n->i'.cl k=(i.cl k).set p z3):Inv n next i' (without A a.1):=by
 have hA:=sY h.srt ha;obtain⟨p',h1,h2,h3⟩:=h.pl a ha;rw[hp] at h1;cases h1;have hlen:(without A a.1).length+i'.free.length=A.length+i.free.length:=(by rw[hfr,List.length_append,List.length_singleton];omega);have hpf:p ∉ i.free:=(fun hm=>(h.fre p hm).2.1 a.1 hp);have hcl2:∀ k,k<n->∀ q,q≠p->(i'.cl k)[q]?=(i.cl k)[q]?:=(fun k hk q hq=>by rw[hcl k hk,List.getElem?_set_ne (fun e=>hq e.symm)]);have hcl1:∀ k,k<n->(i'.cl k)[p]?=some z3:=(fun k hk=>by rw[hcl k hk,List.getElem?_set_self (by rw[h.lens k hk];exact h2)]);refine⟨by rw[hnp,h.np];omega,fun k hk=>by rw[hlen,hcl k hk,List.length_set];exact h.lens k hk,h.srt.filter _,fun b hb=>h.rng b (bX.1 hb).1,?_,?_,?_,?_,?_,?_,?_,by rw[hlen];exact h.few,hlat,h.lim⟩
 ·intro b hb;obtain⟨hb1,hb2⟩:=bX.1 hb;obtain⟨q,q1,q2,q3⟩:=h.pl b hb1;have hqp:q≠p:=(fun e=>hb2 (h.inj _ _ _ q1 (by rw[hp,e])));refine⟨q,by rw[hf];unfold delF;rw[if_neg hb2];exact q1,by rw[hlen];exact q2,?_⟩;rw[q3];exact fP (fun k hk=>hcl2 k hk q hqp)
 ·intro x hx;rw[hf];unfold delF;by_cases e:x=a.1
  ·rw[if_pos e]
  rw[if_neg e];exact h.no x (fun b hb he=>hx b (bX.2 ⟨hb,by rw[he];exact e⟩) he)
 ·intro x y q hx hy;rw[hf] at hx hy;unfold delF at hx hy;by_cases ex:x=a.1
  ·rw[if_pos ex] at hx;cases hx
  by_cases ey:y=a.1
  ·rw[if_pos ey] at hy;cases hy
  rw[if_neg ex] at hx;rw[if_neg ey] at hy;exact h.inj x y q hx hy
 ·intro q hq;rw[hfr] at hq;rw[hlen,hf];rcases List.mem_append.1 hq with hq|hq
  ·obtain⟨q3,q4,q5⟩:=h.fre q hq;refine⟨q3,fun x=>?_,fun k hk=>(hcl2 k hk q (fun e=>hpf (e▸hq))).trans (q5 k hk)⟩;unfold delF;split
   ·intro e;cases e
   exact q4 x
  rw[List.mem_singleton.1 hq];refine⟨h2,fun x=>?_,hcl1⟩;unfold delF;split
  ·intro e;cases e
  rename_i hx;exact fun e=>hx (h.inj _ _ _ e hp)
 ·rw[hfr,List.nodup_append];exact⟨h.fnd,by simp,fun x hx y hy e=>hpf (by rw[List.mem_singleton.1 hy] at e;rw[<- e];exact hx)⟩
 ·intro q hq;rw[hlen] at hq;rw[hfr,hf];rcases h.cov q hq with h4|⟨b,hb,h4⟩
  ·exact .inl (List.mem_append.2 (.inl h4))
  by_cases e:b.1=a.1
  ·rw[e,hp] at h4;cases h4;exact .inl (List.mem_append.2 (.inr (List.mem_singleton.2 rfl)))
  exact .inr ⟨b,bX.2 ⟨hb,e⟩,by unfold delF;rw[if_neg e];exact h4⟩
 intro x;rw[hg x,h.gone x];constructor
 ·rintro (⟨g1,g2,g3⟩ | rfl)
  ·exact⟨g1,g2,fun b hb=>g3 b (bX.1 hb).1⟩
  have:=h.rng a ha
  exact⟨this.1,this.2,fun b hb=>(bX.1 hb).2⟩
 rintro ⟨g1,g2,g3⟩;by_cases e:x=a.1
 ·exact .inr e
 exact .inl ⟨g1,g2,fun b hb he=>g3 b (bX.2 ⟨hb,by rw[he];exact e⟩) he⟩
def setA (A:List R1) (x:Int) (j:Nat) (v:T3):List R1:=A.map fun a=>if a.1=x then (a.1,a.2.set j v) else a
theorem mS (A:List R1) (x:Int) (j:Nat) (v:T3):(setA A x j v).length=A.length:=by simp[setA]
theorem tA (A:List R1) (x:Int) (j:Nat) (v:T3):(setA A x j v).map (·.1)=A.map (·.1):=by
 unfold setA;rw[List.map_map];apply List.map_congr_left;intro a _;simp only[Function.comp];split <;> rfl
theorem qW {A:List R1} {x:Int}:(∃ a∈A,a.1=x)↔x∈A.map (·.1):=by simp
theorem mT {A B:List R1} (e:B.map (·.1)=A.map (·.1)) (x:Int):(∀ a∈B,a.1≠x)↔∀ a∈A,a.1≠x:=by
 have h1:=qW (A:=A) (x:=x);have h2:=qW (A:=B) (x:=x);rw[e,<- h1] at h2;constructor
 ·intro h a ha he;obtain⟨b,hb,hbe⟩:=h2.2 ⟨a,ha,he⟩;exact h b hb hbe
 intro h a ha he;obtain⟨b,hb,hbe⟩:=h2.1 ⟨a,ha,he⟩;exact h b hb hbe
theorem Inv.set (h:Inv n next i A) {a:R1} (ha:a∈A) {p j:Nat} (hj:j<n) {v:T3} (hp:i.f a.1=some p) (hnp:i'.np=i.np) (hf:i'.f=i.f) (hfr:i'.free=i.free)
  (hl:i'.late=i.late) (hG:i'.G=i.G) (hcl:∀ k,k<n->i'.cl k=if k=j then (i.cl k).set p v else i.cl k):Inv n next i' (setA A a.1 j v):=by
 have hids:=tA A a.1 j v;have hA:=mS A a.1 j v;obtain⟨p',h1,h2,h3⟩:=h.pl a ha;rw[hp] at h1;cases h1;have hpf:p ∉ i.free:=fun hm=>(h.fre p hm).2.1 a.1 hp
 have hcl2:∀ k,k<n->∀ q,q≠p->(i'.cl k)[q]?=(i.cl k)[q]?:=fun k hk q hq=>by
  rw[hcl k hk];split
  ·rw[List.getElem?_set_ne (fun e=>hq e.symm)]
  rfl
 have hlen:∀ k,k<n->(i'.cl k).length=A.length+i.free.length:=fun k hk=>by
  rw[hcl k hk];split
  ·rw[List.length_set];exact h.lens k hk
  exact h.lens k hk
 refine⟨by rw[hnp,h.np,hA],fun k hk=>by rw[hA,hfr];exact hlen k hk,?_,?_,?_,?_,?_,?_,by rw[hfr];exact h.fnd,?_,?_,by rw[hA,hfr];exact h.few,by rw[hl];exact h.lat,h.lim⟩
 ·have:=h.srt
  rw[<- List.pairwise_map (f:=fun a:R1=>a.1) (R:=(·<·))] at this ⊢;rw[hids];exact this
 ·intro b hb;have:b.1∈A.map (·.1):=(by rw[<- hids];exact List.mem_map_of_mem hb);obtain⟨c,hc,e⟩:=List.mem_map.1 this;rw[<- e];exact h.rng c hc
 ·intro b hb;rw[hf,hA,hfr];obtain⟨c,hc,rfl⟩:=List.mem_map.1 hb;obtain⟨q,q1,q2,q3⟩:=h.pl c hc;by_cases e:c.1=a.1
  ·rw[if_pos e];have hqp:q=p:=(by rw[e,hp] at q1;cases q1;rfl);subst hqp;refine⟨q,q1,q2,?_⟩;refine mR (by rw[List.length_set,q3,cC]) (fun k hk=>?_);rw[hcl k hk];by_cases ek:k=j
   ·subst ek;rw[if_pos rfl,List.getElem?_set_self (by rw[h.lens k hk];exact q2),List.getElem?_set_self (by rw[q3,cC];exact hk)]
   rw[if_neg ek,List.getElem?_set_ne (fun e=>ek e.symm),q3,cH _ hk,List.getElem?_eq_getElem (by rw[h.lens k hk];exact q2)];rfl
  rw[if_neg e];have hqp:q≠p:=(fun e2=>e (h.inj _ _ _ q1 (by rw[hp,e2])));exact⟨q,q1,q2,by rw[q3];exact fP (fun k hk=>hcl2 k hk q hqp)⟩
 ·intro x hx;rw[hf];exact h.no x ((mT hids x).1 hx)
 ·rw[hf];exact h.inj
 ·intro q hq;rw[hfr] at hq;rw[hf,hA,hfr];obtain⟨q3,q4,q5⟩:=h.fre q hq;exact⟨q3,q4,fun k hk=>(hcl2 k hk q (fun e=>hpf (e▸hq))).trans (q5 k hk)⟩
 ·intro q hq;rw[hA,hfr] at hq;rw[hf,hfr];rcases h.cov q hq with h4|⟨b,hb,h4⟩
  ·exact .inl h4
  refine .inr ⟨_,List.mem_map_of_mem hb,?_⟩;split
  ·exact h4
  exact h4
 intro x;rw[hl,hG,h.gone x];exact⟨fun ⟨a,b,c⟩=>⟨a,b,(mT hids x).2 c⟩,fun ⟨a,b,c⟩=>⟨a,b,(mT hids x).1 c⟩⟩
theorem Inv.texts (h:Inv n next i A) {k:Nat} (hk:k<n) (s:K 12):(∃ x∈i.cl k,x.1=2/\wd x.2.2=s)↔∃ a∈A,∃ x,a.2[k]?=some x/\x.1=2/\wd x.2.2=s:=by
 constructor
 ·rintro ⟨x,hx,h1,h2⟩;obtain⟨p,hp,rfl⟩:=List.getElem_of_mem hx;have hpl:=hp;rw[h.lens k hk] at hp;rcases h.cov p hp with h3|⟨a,ha,h3⟩
  ·have:=(h.fre p h3).2.2 k hk
   rw[List.getElem?_eq_getElem hpl] at this;rw[Option.some.inj this] at h1;cases h1
  obtain⟨q,q1,q2,q3⟩:=h.pl a ha;rw[h3] at q1;cases q1;refine⟨a,ha,_,?_,h1,h2⟩;rw[q3,cH _ hk,List.getElem?_eq_getElem hpl];rfl
 rintro ⟨a,ha,x,hx,h1,h2⟩;obtain⟨q,q1,q2,q3⟩:=h.pl a ha;rw[q3,cH _ hk,List.getElem?_eq_getElem (by rw[h.lens k hk];exact q2)] at hx;cases hx;exact⟨_,List.getElem_mem _,h1,h2⟩
end
def mapV (P:Int->Bool):Par.VW:=⟨fun v w=>∃ p n c,v=.agg #[.slice p n c]/\Vm w (.slice p n c) P,fun _ _ _ ⟨p,n,c,h1,h2⟩ hb=>⟨p,n,c,h1,h2.later hb⟩⟩
theorem IsV.mapV {P:Int->Bool} {W w':World} {e:Ending} (h:IsV P W e w'):∃ u,e=.returned u/\(mapV P).1 u w'/\Below W.heap.size W w':=by
 obtain⟨p,n,c,h1,h2,h3⟩:=h;exact⟨_,h1,⟨p,n,c,rfl,h2⟩,h3⟩
section
variable {W W':World} {tb next:Nat} {t:T} {i:In} {lab:Nat->Nat}
abbrev goneP (i:In):Int->Bool:=fun x=>i.G x || ofP i.late x
theorem jW (h:TbM W tb t next i lab) (hl:i.late.length<=100):Calls Tryz.prog 74 #[.pointer (some ⟨tb,0,none⟩)] W (IsV (goneP i) W):=by
 have hb:=aD W (.cells #[.slice none 0 0] 102);have hk:=heap_alloc_new W (.cells #[.slice none 0 0] 102);have h1:=h.later hb;obtain⟨w1,hw1⟩:∃ w1,W.alloc (.cells #[.slice none 0 0] 102)=w1:=⟨_,rfl⟩;obtain⟨B,hBB⟩:∃ B,W.heap.size=B:=⟨_,rfl⟩;rw[hw1] at h1 hk hb;rw[hBB] at hk;have HG:=qAq hb;obtain⟨pg,ng,cg,hgv⟩:=h.gone.slc;obtain⟨pl,cl,hlv,_,_⟩:=h.late.isslice;obtain⟨nl,hnl⟩:∃ n,i.late.length=n:=⟨_,rfl⟩;rw[hnl] at hlv hl
 have HX:Hid (∀ w,Below w1.heap.size w1 w->w.cell? ⟨tb,7,none⟩=some (.slice pg ng cg)/\w.cell? ⟨tb,8,none⟩=some (.slice pl nl cl)/\Vm w (.slice pg ng cg) i.G/\Rd w pl i.late):=qAq (fun w hw=>by
  have h2:=h1.later hw;obtain⟨_,_,_,_,_,_,_,c7,c8,_⟩:=h2.cells;have hg:=h2.gone;have hr:=h2.late;rw[hgv] at c7 hg;rw[hlv] at c8 hr;exact⟨c7,c8,hg,by rw[<- hnl] at hr;exact Ro.rd hr⟩)
 have HN:=qAq (qBq hnl hl);have HW:=qAq (qBq hw1 (qBq hBB hk));have zn:tb<w1.heap.size:=h1.tlt;clear h h1 hk hb hw1 hBB hgv hlv hnl hl;go_enter Tryz.func74,Tryz.ntmps74;go_upto_region 1 with fail;rw[HW.out.1,HW.out.2.1];refine Par.wp_region_par2 10 (fun w=>Below w1.heap.size w1 w) (Par.VL [(.eq (Value.pointer (some ⟨tb,0,none⟩))),(.eq (Value.pointer (some ⟨tb,0,none⟩))),(.eq (Value.pointer (some ⟨tb,7,none⟩))),(.eq (.agg #[.slice pg ng cg])),(.eq (Value.pointer (some ⟨tb,0,none⟩))),(.eq (Value.pointer (some ⟨tb,0,none⟩))),(.eq (Value.pointer (some ⟨tb,8,none⟩))),(.eq (.slice pl nl cl)),((mapV (ofP i.late))),((mapV (goneP i)))]) ?A1 ?hm1 ?hB1 (fun w w' h hb=>aB h hb) (Par.VL.mono _) ?hA1 ((aF w1)) ?hop1 ?hT1
 case hm1=>kernel_rfl
 case hB1=>kernel_rfl
 case hA1 =>
  intro vs;simp only[Par.putA,Par.dstAt,Act.put,qDq,qEq,qFq,qLq,qGq,qHq,qIq];rfl
 case hop1 =>
  simp only[qMq,List.take_zero,Par.GiveAllV,and_true];and_intros<;>intro vs w hK hd
  ·clear hd;simp only[Par.GivesV];go_simp;all_goals exact⟨rfl,Below.refl _ _⟩
  ·have d0:=hd 0 (by decide) (by kernel_rfl);replace d0:vs 0=(Value.pointer (some ⟨tb,0,none⟩)):=d0;clear hd;simp only[Par.GivesV,d0];go_simp;all_goals exact⟨rfl,Below.refl _ _⟩
  ·have d1:=hd 1 (by decide) (by kernel_rfl);replace d1:vs 1=(Value.pointer (some ⟨tb,0,none⟩)):=d1;have zt:=Nat.lt_of_lt_of_le zn hK.size;clear hd;simp only[Par.GivesV,d1];go_simp;all_goals exact⟨rfl,Below.refl _ _⟩
  ·have d2:=hd 2 (by decide) (by kernel_rfl);replace d2:vs 2=(Value.pointer (some ⟨tb,7,none⟩)):=d2;have k:=(HX.out w hK).1;clear hd;simp only[Par.GivesV,d2];go_simp;all_goals exact⟨rfl,Below.refl _ _⟩
  ·clear hd;simp only[Par.GivesV];go_simp;all_goals exact⟨rfl,Below.refl _ _⟩
  ·have d4:=hd 4 (by decide) (by kernel_rfl);replace d4:vs 4=(Value.pointer (some ⟨tb,0,none⟩)):=d4;clear hd;simp only[Par.GivesV,d4];go_simp;all_goals exact⟨rfl,Below.refl _ _⟩
  ·have d5:=hd 5 (by decide) (by kernel_rfl);replace d5:vs 5=(Value.pointer (some ⟨tb,0,none⟩)):=d5;have zt:=Nat.lt_of_lt_of_le zn hK.size;clear hd;simp only[Par.GivesV,d5];go_simp;all_goals exact⟨rfl,Below.refl _ _⟩
  ·have d6:=hd 6 (by decide) (by kernel_rfl);replace d6:vs 6=(Value.pointer (some ⟨tb,8,none⟩)):=d6;have k:=(HX.out w hK).2.1;clear hd;simp only[Par.GivesV,d6];go_simp;all_goals exact⟨rfl,Below.refl _ _⟩
  ·have d7:=hd 7 (by decide) (by kernel_rfl);replace d7:vs 7=(.slice pl nl cl):=d7
   skip
   clear hd;simp only[Par.GivesV,d7];go_simp;exact (vof HN.out.1 (by have:=HN.out.2;omega) (HX.out w hK).2.2.2).mono (fun e w'' h=>h.mapV)
  have d3:=hd 3 (by decide) (by kernel_rfl);replace d3:vs 3=(.agg #[.slice pg ng cg]):=d3;have d8:=hd 8 (by decide) (by kernel_rfl);obtain⟨p8,n8,c8,d8,hv8⟩:=d8;replace d8:vs 8=.agg #[.slice p8 n8 c8]:=d8;clear hd;simp only[Par.GivesV,d3,d8];go_simp;exact (vor (HX.out w hK).2.2.1 hv8).mono (fun e w'' h=>h.mapV)
 intro vs w' hK hV;simp only[qNq,List.drop_zero];have d0:=hV 0 (by decide);replace d0:vs 0=(Value.pointer (some ⟨tb,0,none⟩)):=d0;have d1:=hV 1 (by decide);replace d1:vs 1=(Value.pointer (some ⟨tb,0,none⟩)):=d1;have d2:=hV 2 (by decide);replace d2:vs 2=(Value.pointer (some ⟨tb,7,none⟩)):=d2;have d3:=hV 3 (by decide);replace d3:vs 3=(.agg #[.slice pg ng cg]):=d3;have d4:=hV 4 (by decide);replace d4:vs 4=(Value.pointer (some ⟨tb,0,none⟩)):=d4;have d5:=hV 5 (by decide);replace d5:vs 5=(Value.pointer (some ⟨tb,0,none⟩)):=d5;have d6:=hV 6 (by decide);replace d6:vs 6=(Value.pointer (some ⟨tb,8,none⟩)):=d6;have d7:=hV 7 (by decide);replace d7:vs 7=(.slice pl nl cl):=d7;have d8:=hV 8 (by decide);have d9:=hV 9 (by decide);clear hV;simp only[d0,d1,d2,d3,d4,d5,d6,d7];clear d0 d1 d2 d3 d4 d5 d6 d7;clear d8;obtain⟨p9,n9,c9,e9,hv9⟩:=d9;generalize vs 9=v9 at e9 ⊢;subst e9;generalize vs 8=v8;have hBx:=aE hK HW.out.2.2;have z0:=aA hBx 0;have zf:=(fun i=>frozen_of_row w' B i _ _ hBx);have zl:=aC hBx;have HR:=qAq (qBq hK (qBq hv9 hBx));clear hK hv9 hBx;go_wp2_with fail;have hS:=heap_setCell_same w' B 0 _ _ (.slice p9 n9 c9) HR.out.2.2;have hBel:Below W.heap.size W (w'.setCell ⟨B,0,none⟩ (.slice p9 n9 c9)):=(aB HG.out HR.out.1).setCell (p:=⟨B,0,none⟩) (Nat.le_of_eq HW.out.2.1) _
 have hv:Vm (w'.setCell ⟨B,0,none⟩ (.slice p9 n9 c9)) (.slice p9 n9 c9) (goneP i):=by
  obtain⟨l,m1,m2,m3⟩:=HR.out.2.1;refine⟨l,HRow.of m1 (fun k hk=>heap_setCell_other w' ⟨B,0,none⟩ k _ (fun e=>?_)),m2,m3⟩;obtain⟨_,cur,hc⟩:=HRow.block m1 k hk;subst e;rw[HR.out.2.2] at hc;cases hc
 generalize w'.setCell _ _=wz at hS hBel hv ⊢;have y0:=aA hS 0;refine bodyPost_ret (v:=.agg #[.slice p9 n9 c9]) (by simp[results,Tryz.results74,go_sem,y0]) rfl ?_;exact⟨p9,n9,c9,rfl,hv,hBel⟩
theorem aBe (h:TbM W tb t next i lab):Calls Tryz.prog 30 #[.pointer (some ⟨tb,0,none⟩)] W fun e w'=>e=.returned (.int .i64 (next:Int))/\w'=W:=by
 obtain⟨_,_,_,_,_,_,_,_,_,c9⟩:=h.cells;have zl:=h.tlt;clear h;go_enter Tryz.func30,Tryz.ntmps30
 go_wp2
 go_ret;exact⟨rfl,rfl⟩
theorem aBf (h:TbM W tb t next i lab) (hl:i.late.length<=100):Calls Tryz.prog 52 #[.pointer (some ⟨tb,0,none⟩)] W (IsV (notP (goneP i) (next:Int)) W):=by
 have hb:=aD W (.cells #[.slice none 0 0] 102);have hk:=heap_alloc_new W (.cells #[.slice none 0 0] 102);have h1:=h.later hb;obtain⟨w1,hw1⟩:∃ w1,W.alloc (.cells #[.slice none 0 0] 102)=w1:=⟨_,rfl⟩;obtain⟨B,hBB⟩:∃ B,W.heap.size=B:=⟨_,rfl⟩;rw[hw1] at h1 hk hb;rw[hBB] at hk;have HG:=qAq hb
 have HX:Hid (∀ w,Below w1.heap.size w1 w->w.cell? ⟨tb,9,none⟩=some (.int .i64 (next:Int))/\TbM w tb t next i lab):=qAq (fun w hw=>by
  have h2:=h1.later hw;exact⟨h2.cells.2.2.2.2.2.2.2.2.2,h2⟩)
 have HN:=qAq hl;have HW:=qAq (qBq hw1 (qBq hBB hk));have zn:tb<w1.heap.size:=h1.tlt;clear h h1 hk hb hw1 hBB hl;go_enter Tryz.func52,Tryz.ntmps52;go_upto_region 3 with fail;rw[HW.out.1,HW.out.2.1];refine Par.wp_region_par2 7 (fun w=>Below w1.heap.size w1 w) (Par.VL [(.eq (Value.pointer (some ⟨tb,0,none⟩))),((mapV (goneP i))),(.eq (Value.pointer (some ⟨tb,0,none⟩))),(.eq (Value.pointer (some ⟨tb,0,none⟩))),(.eq (Value.pointer (some ⟨tb,9,none⟩))),(.eq (.int .i64 (next:Int))),((mapV (notP (goneP i) (next:Int))))]) ?A2 ?hm2 ?hB2 (fun w w' h hb=>aB h hb) (Par.VL.mono _) ?hA2 ((aF w1)) ?hop2 ?hT2
 case hm2=>kernel_rfl
 case hB2=>kernel_rfl
 case hA2 =>
  intro vs;simp only[Par.putA,Par.dstAt,Act.put,qDq,qEq,qFq,qLq,qGq,qHq,qIq];rfl
 case hop2 =>
  simp only[qMq,List.take_zero,Par.GiveAllV,and_true];and_intros<;>intro vs w hK hd
  ·clear hd;simp only[Par.GivesV];go_simp;all_goals exact⟨rfl,Below.refl _ _⟩
  ·have d0:=hd 0 (by decide) (by kernel_rfl);replace d0:vs 0=(Value.pointer (some ⟨tb,0,none⟩)):=d0
   skip
   clear hd;simp only[Par.GivesV,d0];go_simp;exact (jW (HX.out w hK).2 HN.out).mono (fun e w'' h=>h.mapV)
  ·clear hd;simp only[Par.GivesV];go_simp;all_goals exact⟨rfl,Below.refl _ _⟩
  ·have d2:=hd 2 (by decide) (by kernel_rfl);replace d2:vs 2=(Value.pointer (some ⟨tb,0,none⟩)):=d2;clear hd;simp only[Par.GivesV,d2];go_simp;all_goals exact⟨rfl,Below.refl _ _⟩
  ·have d3:=hd 3 (by decide) (by kernel_rfl);replace d3:vs 3=(Value.pointer (some ⟨tb,0,none⟩)):=d3;have zt:=Nat.lt_of_lt_of_le zn hK.size;clear hd;simp only[Par.GivesV,d3];go_simp;all_goals exact⟨rfl,Below.refl _ _⟩
  ·have d4:=hd 4 (by decide) (by kernel_rfl);replace d4:vs 4=(Value.pointer (some ⟨tb,9,none⟩)):=d4;have k:=(HX.out w hK).1;clear hd;simp only[Par.GivesV,d4];go_simp;all_goals exact⟨rfl,Below.refl _ _⟩
  have d1:=hd 1 (by decide) (by kernel_rfl);have d5:=hd 5 (by decide) (by kernel_rfl);replace d5:vs 5=(.int .i64 (next:Int)):=d5;obtain⟨p1,n1,c1,d1,hv1⟩:=d1;replace d1:vs 1=.agg #[.slice p1 n1 c1]:=d1;clear hd;simp only[Par.GivesV,d5,d1];go_simp;exact (aIy hv1 (next:Int)).mono (fun e w'' h=>h.mapV)
 intro vs w' hK hV;simp only[qNq,List.drop_zero];have d0:=hV 0 (by decide);replace d0:vs 0=(Value.pointer (some ⟨tb,0,none⟩)):=d0;have d1:=hV 1 (by decide);have d2:=hV 2 (by decide);replace d2:vs 2=(Value.pointer (some ⟨tb,0,none⟩)):=d2;have d3:=hV 3 (by decide);replace d3:vs 3=(Value.pointer (some ⟨tb,0,none⟩)):=d3;have d4:=hV 4 (by decide);replace d4:vs 4=(Value.pointer (some ⟨tb,9,none⟩)):=d4;have d5:=hV 5 (by decide);replace d5:vs 5=(.int .i64 (next:Int)):=d5;have d6:=hV 6 (by decide);clear hV;simp only[d0,d2,d3,d4,d5];clear d0 d2 d3 d4 d5;clear d1;obtain⟨p9,n9,c9,e9,hv9⟩:=d6;generalize vs 6=v9 at e9 ⊢;subst e9;generalize vs 1=v8;have hBx:=aE hK HW.out.2.2;have z0:=aA hBx 0;have zf:=(fun i=>frozen_of_row w' B i _ _ hBx);have zl:=aC hBx;have HR:=qAq (qBq hK (qBq hv9 hBx));clear hK hv9 hBx;go_wp2_with fail;have hS:=heap_setCell_same w' B 0 _ _ (.slice p9 n9 c9) HR.out.2.2;have hBel:Below W.heap.size W (w'.setCell ⟨B,0,none⟩ (.slice p9 n9 c9)):=(aB HG.out HR.out.1).setCell (p:=⟨B,0,none⟩) (Nat.le_of_eq HW.out.2.1) _
 have hv:Vm (w'.setCell ⟨B,0,none⟩ (.slice p9 n9 c9)) (.slice p9 n9 c9) (notP (goneP i) (next:Int)):=by
  obtain⟨l,m1,m2,m3⟩:=HR.out.2.1;refine⟨l,HRow.of m1 (fun k hk=>heap_setCell_other w' ⟨B,0,none⟩ k _ (fun e=>?_)),m2,m3⟩;obtain⟨_,cur,hc⟩:=HRow.block m1 k hk;subst e;rw[HR.out.2.2] at hc;cases hc
 generalize w'.setCell _ _=wz at hS hBel hv ⊢;have y0:=aA hS 0;refine bodyPost_ret (v:=.agg #[.slice p9 n9 c9]) (by simp[results,Tryz.results52,go_sem,y0]) rfl ?_;exact⟨p9,n9,c9,rfl,hv,hBel⟩
theorem aGY {cb:Nat->Nat} {n k:Nat} (h:k<n):(ptrs cb n)[k]?=some (Value.pointer (some ⟨cb k,0,none⟩)):=by simp[ptrs,h]
theorem TbM.ptr (h:TbM W tb t next i lab) {k:Nat} (hk:k<t.cols.length):∃ g c,i.cv=.slice (some ⟨g,0,none⟩) t.cols.length c/\t.cols.length<=c/\c<=maxLen/\g<W.heap.size/\W.cell? ⟨g,k,none⟩=some (Value.pointer (some ⟨i.cb k,0,none⟩)):=by
 obtain⟨g,c,hv,h1,h2⟩:=h.cols.slice (by omega);have hc:=h.cols;rw[hv] at hc;exact⟨g,c,hv,h1,h2,(hc.lt g rfl).2,hc.cell (aGY hk)⟩
theorem xD (h:TbM W tb t next i lab) {x:ByteArray} {k:Nat} (hk:k<t.cols.length) (hx:ixC t.cols x=(k:Int)) (m:List (K 12)) (hm:m.Nodup) (hs:∀ s,s∈m↔∃ y∈i.cl k,y.1=2/\wd y.2.2=s):Calls Tryz.prog 82 #[.pointer (some ⟨tb,0,none⟩),.string x] W fun e w'=>e=.returned (.int .i64 (m.length:Int))/\Below W.heap.size W w':=by
 have hc:=fO h x;rw[hx] at hc;obtain⟨g,c,hcv,h1,h2,_⟩:=h.ptr hk;obtain⟨n,hn⟩:∃ n,t.cols.length=n:=⟨_,rfl⟩
 have HX:Hid (∀ w,Below W.heap.size W w->w.cell? ⟨tb,4,none⟩=some (.slice (some ⟨g,0,none⟩) n c)/\w.cell? ⟨g,k,none⟩=some (Value.pointer (some ⟨i.cb k,0,none⟩))/\tb<w.heap.size/\g<w.heap.size/\Calls Tryz.prog 118 #[.pointer (some ⟨i.cb k,0,none⟩)] w fun e w'=>e=.returned (.int .i64 (m.length:Int))/\w'=w):=qAq (fun w hw=>by
  have h3:=h.later hw;obtain⟨g',c',e,_,_,k1,k2⟩:=h3.ptr hk;rw[hcv] at e;cases e;exact⟨by rw[<- hn,<- hcv];exact h3.cells.2.2.2.2.1,k2,h3.tlt,k1,aAS (h3.col k hk) m hm hs⟩)
 rw[hn] at h1 hk;have hd:decide ((k:Int)≥0)=true:=(by simp);have hki:(k:Int)<(n:Int):=(by omega);have hz:decide (0<=(k:Int))=true:=(by simp);rw[hz] at hc;unfold maxLen at h2;clear h hx hcv hn hs hm hz;generalize i.cb k=cb at HX;generalize m.length=ml at HX ⊢;go_enter Tryz.func82,Tryz.ntmps82
 go_wp2_with (first
  | (go_at_call 76;(with_reducible refine hc.mono ?_);rintro e w2 ⟨rfl,hb2⟩;obtain⟨x4,xk,xt,xg,xw⟩:=HX.out w2 hb2;have HB:=qAq hb2;clear hb2 hc)
  | (go_at_call 118;(with_reducible refine xw.mono ?_);rintro e w3 ⟨rfl,hw3⟩;subst w3))
 go_ret;exact⟨rfl,HB.out⟩
end
theorem aHW (n q:Nat) (h:q<n):(cells3 (List.replicate n z3))[q*3]?=some (.int .i64 0)/\(cells3 (List.replicate n z3))[q*3+1]?=some (.int .i64 0)/\(cells3 (List.replicate n z3))[q*3+2]?=some (.string ⟨#[]⟩):=by
 have:=dG (List.replicate n z3) q (by simpa using h)
 simpa using this
theorem aHX (n:Nat):(madeCells #[Value.int .i64 0,Value.int .i64 0,Value.string ⟨#[]⟩] (n*3)).toList=cells3 (List.replicate n z3):=by
 apply List.ext_getElem?;intro i;by_cases hi:i<n*3
 ·have hq:i / 3<n:=(by omega);obtain⟨h0,h1,h2⟩:=aHW n (i / 3) hq;have hm:i=i / 3*3∨i=i / 3*3+1∨i=i / 3*3+2:=(by omega);rcases hm with hm|hm|hm
  ·rw[show (cells3 (List.replicate n z3))[i]?=some (.int .i64 0) by rw[hm];exact h0];have hr:i % 3=0:=(by omega);simp[madeCells,hi,hr]
  ·rw[show (cells3 (List.replicate n z3))[i]?=some (.int .i64 0) by rw[hm];exact h1];have hr:i % 3=1:=(by omega);simp[madeCells,hi,hr]
  rw[show (cells3 (List.replicate n z3))[i]?=some (.string ⟨#[]⟩) by rw[hm];exact h2];have hr:i % 3=2:=(by omega);simp[madeCells,hi,hr]
 rw[List.getElem?_eq_none (by simp[madeCells];omega),List.getElem?_eq_none (by rw[dR];simp;omega)]
theorem aBg (n:Nat) (hn:n<=65536) (w:World):∃ w',(Instr.makeSlice 27 (.int .i64 (n:Int)) (.int .i64 (n:Int))).run Tryz.prog w=.ok (.slice (some ⟨w.heap.size,0,none⟩) n n) w'/\HRow w' w.heap.size 32 3 (.slice (some ⟨w.heap.size,0,none⟩) n n) n (cells3 (List.replicate n z3))/\w.grownBy w' none:=by
 obtain⟨i0,hi0,hz0,hz1,hz2⟩:=info_parts wL;obtain⟨w',h1,h2,h3⟩:=run_make_full (P:=Tryz.prog) w w.heap.size 27 32 i0 _ 3 Tryz.underlying27 hi0 hz0 hz1 .i64 .i64 n (by rw[hz2];omega) (by unfold maxLen;omega) (Nat.le_refl _);refine⟨w',h1,?_,h3⟩;rw[<- aHX];exact HRow.of_own h2
section
variable {W W':World} {tb next:Nat} {t:T} {i:In} {lab:Nat->Nat}
theorem aCJ (h:TbM W tb t next i lab) {x:Int} (hx:F64 x) {p:Nat} (hf:i.f x=some p) (hp:∀ k,k<t.cols.length->p<(i.cl k).length) (hc:t.cols.length<=1000) (h0:0<t.cols.length) :
  Calls Tryz.prog 84 #[.pointer (some ⟨tb,0,none⟩),.int .i64 x] W fun e w'=>∃ g c,e=.returned (.tuple #[.slice (some ⟨g,0,none⟩) t.cols.length c,.bool true])/\W.heap.size<=g/\HRow w' W.heap.size 32 3 (.slice (some ⟨g,0,none⟩) t.cols.length c) t.cols.length (cells3 (rowOf i.cl t.cols.length p))/\Below W.heap.size W w':=by
 have ha:=fB h hx;rw[hf] at ha;simp only[Option.getD_some,Option.isSome_some] at ha;obtain⟨w1,hmk,hr1,hg1⟩:=aBg t.cols.length (by omega) W;have hb1:Below W.heap.size W w1:=⟨hg1.os,hg1.tape,hg1.output,hg1.size,fun k hk=>hg1.block k hk (by simp)⟩;obtain⟨gc,cc,hcv,hn1,hn2,hgl,_⟩:=h.ptr h0;obtain⟨n,hn⟩:∃ n,t.cols.length=n:=⟨_,rfl⟩;have c4:=h.cells.2.2.2.2.1;have zl:=h.tlt;have z1:tb<w1.heap.size:=Nat.lt_of_lt_of_le zl hb1.size;have c4':=(h.later hb1).cells.2.2.2.2.1;rw[hcv] at c4 c4';obtain⟨cl,hcl⟩:∃ cl,i.cl=cl:=⟨_,rfl⟩;rw[hcl] at hp ⊢;obtain⟨mb,hmb⟩:∃ mb,W.heap.size=mb:=⟨_,rfl⟩
 have HX:Hid (∀ w k,k<n->Below w1.heap.size w1 w∨Below mb w1 w->w.cell? ⟨gc,k,none⟩=some (Value.pointer (some ⟨i.cb k,0,none⟩))/\gc<w.heap.size/\∃ (hpk:p<(cl k).length),Calls Tryz.prog 107 #[.pointer (some ⟨i.cb k,0,none⟩),.int .i64 (p:Int)] w fun e w'=>e=.returned (.tuple #[(Value.agg #[Value.int .i64 ((cl k)[p].1),Value.int .i64 ((cl k)[p].2.1),Value.string ((cl k)[p].2.2)]),.bool true])/\Below w.heap.size w w'):=qAq (fun w k hk hw=>by
  have hw2:Below W.heap.size W w:=by
   rcases hw with hw|hw
   ·exact aB hb1 hw
   exact hb1.trans (hw.mono (Nat.le_of_eq hmb))
  have h2:=h.later hw2;obtain⟨g',c',e,_,_,k1,k2⟩:=h2.ptr (hn▸hk);rw[hcv] at e;cases e;have hpk:=hp k (hn▸hk);refine⟨k2,k1,hpk,?_⟩;have hcol:=h2.col k (hn▸hk);rw[hcl] at hcol;exact aCr hcol p hpk)
 have HL:=qAq (qBq hp hb1);rw[hn] at hmk hr1 hp hn1 c4 c4' hc ⊢;rw[hmb] at hmk hr1;have HM:=qAq (qBq hmb hn);have hrl:(rowOf cl n p).length=n:=cC _ _ _;have HR1:=qAq (qBq hr1 hrl);unfold maxLen at hn2;clear h hf hx hr1 hg1 hcv hcl hmb hn hp hrl hb1;go_enter Tryz.func84,Tryz.ntmps84;go_wp2_with (go_at_call 72;(with_reducible refine ha.mono ?_);rintro e w2 ⟨rfl,hw2⟩;subst w2);go_loopg [30] (n+1) (fun gh jv w=>∃ (j:Nat) (X:List T3),jv=.int .i64 (j:Int)/\j<=n/\n+1<=j+gh/\X.length=n/\X.take j=(rowOf cl n p).take j/\HRow w mb 32 3 (.slice (some ⟨mb,0,none⟩) n n) n (cells3 X)/\Below mb w1 w)
 case atStart=>exact⟨0,List.replicate n z3,rfl,Nat.zero_le _,by omega,by simp,rfl,HR1.out.1,Below.refl _ _⟩
 obtain⟨j,X,rfl,hj,hg,hX,htk,hR,hB⟩:=hrel;by_cases hlt:j<n
 ·obtain⟨d0,d1,hpk,hcall⟩:=HX.out wr j hlt (.inr hB);have hjX:j<X.length:=by omega
  have hset:(X.set j (cl j)[p]).take (j+1)=(rowOf cl n p).take (j+1):=by
   have e1:(rowOf cl n p)[j]'(by rw[cC];exact hlt)=(cl j)[p]:=by
    have:=cH cl (p:=p) hlt
    rw[List.getElem?_eq_getElem (by rw[cC];exact hlt),List.getElem?_eq_getElem hpk] at this;simpa using this
   rw[List.take_succ_eq_append_getElem (by simpa using hjX),List.take_succ_eq_append_getElem (by rw[cC];exact hlt),List.take_set,List.set_eq_of_length_le (by simp;omega),htk,List.getElem_set_self,e1]
  obtain⟨y,hy⟩:∃ y,(cl j)[p]=y:=⟨_,rfl⟩;rw[hy] at hcall hset;obtain⟨yk,yn,ys⟩:=y;simp only at hcall;have HRR:=qAq (qBq hR (qBq hB (qBq hX hset)));have hji:(j:Int)<(n:Int):=(by omega);have hgl2:=(hR.lt mb rfl).2;clear hR hB hX htk hset hy hjX;go_wp2_with (go_at_call 107;(with_reducible refine hcall.mono ?_);rintro e w3 ⟨rfl,hb3⟩;have hR3:=HRR.out.1.later hb3;obtain⟨q0,q1,q2⟩:=dG X j (by rw[HRR.out.2.2.1];exact hlt);have v0:=hR3.cell q0;have v1:=hR3.cell q1;have v2:=hR3.cell q2;have f0:=hR3.frozenAt (j*3);have f1:=hR3.frozenAt (j*3+1);have f2:=hR3.frozenAt (j*3+2);have zl3:=(hR3.lt mb rfl).2;have H3:=qAq (qBq hR3 hb3);clear hR3 hb3 q0 q1 q2);have hrs:=qO H3.out.1 HRR.out.2.2.1 j hlt yk yn ys
  have hbel:Below mb w1 (((w3.setCell ⟨mb,j*3,none⟩ (.int .i64 yk)).setCell ⟨mb,j*3+1,none⟩ (.int .i64 yn)).setCell ⟨mb,j*3+2,none⟩ (.string ys)) :=
   (((HRR.out.2.1.trans (H3.out.2.mono (by omega))).setCell (p:=⟨mb,j*3,none⟩) (Nat.le_refl _) _).setCell (p:=⟨mb,j*3+1,none⟩) (Nat.le_refl _) _).setCell (p:=⟨mb,j*3+2,none⟩) (Nat.le_refl _) _
  generalize ((w3.setCell _ _).setCell _ _).setCell _ _=w4 at hrs hbel ⊢;have H4:=qAq (qBq hrs.1 hbel);clear hrs hbel;go_wp2_with fail;go_roundg (n-j)
  case measure=>omega
  exact⟨j+1,X.set j (yk,yn,ys),by go_num,by omega,by omega,by rw[List.length_set];exact HRR.out.2.2.1,HRR.out.2.2.2,H4.out.1,H4.out.2⟩
 obtain rfl:j=n:=(by omega);have hXe:X=rowOf cl j p:=(by rw[<- List.take_of_length_le (l:=X) (Nat.le_of_eq hX),htk,List.take_of_length_le (Nat.le_of_eq HR1.out.2)]);subst hXe;have HF:=qAq (qBq hR hB);clear hR hB hX htk;go_wp2_with fail;go_ret2;rw[HM.out.1];exact⟨mb,j,rfl,Nat.le_refl _,HF.out.1,(HM.out.1▸HL.out.2).trans HF.out.2⟩
theorem aEZ (h:TbM W tb t next i lab) {x:Int} (hx:F64 x) {y:ByteArray} (hf:i.f x=none∨ixC t.cols y=-1):Calls Tryz.prog 132 #[.pointer (some ⟨tb,0,none⟩),.int .i64 x,.string y] W fun e w'=>e=.returned (.tuple #[(Value.agg #[Value.int .i64 (0),Value.int .i64 (0),Value.string (⟨#[]⟩)]),.bool false])/\Below W.heap.size W w':=by
 have hb:=aD W (.cells #[.int .i64 0,.int .i64 0,.string ⟨#[]⟩] 32);have hk:=heap_alloc_new W (.cells #[.int .i64 0,.int .i64 0,.string ⟨#[]⟩] 32);have h1:=h.later hb;have ha:=fB h1 hx;have hc:=fO h1 y;have HB:=qAq (qBq hb hk);clear hb hk h h1;cases hfx:i.f x with
 | none =>
  rw[hfx] at ha;clear hc hfx hf;go_enter Tryz.func132,Tryz.ntmps132;go_wp2_with (go_at_call 72;(with_reducible refine ha.mono ?_);rintro e w2 ⟨rfl,hw2⟩;subst w2);refine bodyPost_ret (v:=.tuple #[(Value.agg #[Value.int .i64 (0),Value.int .i64 (0),Value.string (⟨#[]⟩)]),.bool false]) (by simp[results,Tryz.results132,go_sem]) rfl ?_;exact⟨rfl,by first|exact HB.out.1|exact ((HB.out.1.setCell (Nat.le_refl _) _).setCell (Nat.le_refl _) _).setCell (Nat.le_refl _) _⟩
 | some p =>
  have hy:ixC t.cols y=-1:=hf.resolve_left (by rw[hfx];simp);rw[hfx] at ha;rw[hy] at hc;simp only[Option.getD_some,Option.isSome_some] at ha;have hd:decide (0<=(-1:Int))=false:=(by decide);rw[hd] at hc;clear hfx hf hy hd;generalize ((p:Nat):Int)=pp at ha;go_enter Tryz.func132,Tryz.ntmps132
  go_wp2_with (first
   | (go_at_call 72;(with_reducible refine ha.mono ?_);rintro e w2 ⟨rfl,hw2⟩;subst w2)
   | (go_at_call 76;(with_reducible refine hc.mono ?_);rintro e w3 ⟨rfl,hb3⟩;have hx3:=aE hb3 HB.out.2;have z0:=aA hx3 0;have z1:=aA hx3 1;have z2:=aA hx3 2;have zf:=fun i=>frozen_of_row w3 W.heap.size i _ _ hx3;have zl:=aC hx3;have HX:=qAq (qBq (aB HB.out.1 hb3) hx3);clear hx3 hb3))
  have hS:=jT HX.out.2 (.int .i64 0) (.int .i64 0) (.string ⟨#[]⟩);have hBel:=((HX.out.1.setCell (p:=⟨W.heap.size,0,none⟩) (Nat.le_refl _) (.int .i64 0)).setCell (p:=⟨W.heap.size,1,none⟩) (Nat.le_refl _) (.int .i64 0)).setCell (p:=⟨W.heap.size,2,none⟩) (Nat.le_refl _) (.string ⟨#[]⟩);generalize ((w3.setCell _ _).setCell _ _).setCell _ _=wz at hS hBel ⊢;have y0:=aA hS 0;have y1:=aA hS 1;have y2:=aA hS 2;refine bodyPost_ret (v:=.tuple #[(Value.agg #[Value.int .i64 (0),Value.int .i64 (0),Value.string (⟨#[]⟩)]),.bool false]) (by simp[results,Tryz.results132,go_sem,y0,y1,y2]) rfl ?_;exact⟨rfl,hBel⟩
theorem aCK (h:TbM W tb t next i lab) {x:Int} (hx:F64 x) {y:ByteArray} {p k:Nat} (hf:i.f x=some p) (hk:k<t.cols.length) (hy:ixC t.cols y=(k:Int)) (hp:p<(i.cl k).length) {u:T3} (hu:(i.cl k)[p]?=some u) :
  Calls Tryz.prog 132 #[.pointer (some ⟨tb,0,none⟩),.int .i64 x,.string y] W fun e w'=>e=.returned (.tuple #[(Value.agg #[Value.int .i64 (u.1),Value.int .i64 (u.2.1),Value.string (u.2.2)]),.bool true])/\Below W.heap.size W w':=by
 have hb:=aD W (.cells #[.int .i64 0,.int .i64 0,.string ⟨#[]⟩] 32);have hk0:=heap_alloc_new W (.cells #[.int .i64 0,.int .i64 0,.string ⟨#[]⟩] 32);have h1:=h.later hb;have ha:=fB h1 hx;have hc:=fO h1 y;rw[hf] at ha;rw[hy] at hc;simp only[Option.getD_some,Option.isSome_some] at ha;have hd:decide (0<=(k:Int))=true:=(by simp);rw[hd] at hc;obtain⟨g,c,hcv,n1,n2,_⟩:=h.ptr hk;obtain⟨n,hn⟩:∃ n,t.cols.length=n:=⟨_,rfl⟩
 have HX:Hid (∀ w,Below W.heap.size W w->w.cell? ⟨tb,4,none⟩=some (.slice (some ⟨g,0,none⟩) n c)/\w.cell? ⟨g,k,none⟩=some (Value.pointer (some ⟨i.cb k,0,none⟩))/\tb<w.heap.size/\g<w.heap.size/\Calls Tryz.prog 107 #[.pointer (some ⟨i.cb k,0,none⟩),.int .i64 (p:Int)] w fun e w'=>e=.returned (.tuple #[(Value.agg #[Value.int .i64 (u.1),Value.int .i64 (u.2.1),Value.string (u.2.2)]),.bool true])/\Below w.heap.size w w'):=qAq (fun w hw=>by
  have h3:=h.later hw;obtain⟨g',c',e,_,_,k1,k2⟩:=h3.ptr hk;rw[hcv] at e;cases e;have hcall:=aCr (h3.col k hk) p hp;rw[List.getElem?_eq_getElem hp] at hu;rw[Option.some.inj hu] at hcall;exact⟨by rw[<- hn,<- hcv];exact h3.cells.2.2.2.2.1,k2,h3.tlt,k1,hcall⟩)
 rw[hn] at n1 hk;have hki:(k:Int)<(n:Int):=(by omega);have HB:=qAq (qBq hb hk0);unfold maxLen at n2;obtain⟨uk,un,us⟩:=u;clear h h1 hb hk0 hf hy hd hcv hn hu hp;generalize i.cb k=cb at HX;simp only at HX ⊢;go_enter Tryz.func132,Tryz.ntmps132
 go_wp2_with (first
  | (go_at_call 72;(with_reducible refine ha.mono ?_);rintro e w2 ⟨rfl,hw2⟩;subst w2)
  | (go_at_call 76;(with_reducible refine hc.mono ?_);rintro e w3 ⟨rfl,hb3⟩;obtain⟨x4,xk,xt,xg,xw⟩:=HX.out w3 (aB HB.out.1 hb3);have H3:=qAq hb3;clear hb3 hc)
  | (go_at_call 107;(with_reducible refine xw.mono ?_);rintro e w4 ⟨rfl,hb4⟩;have hx4:=aE hb4 (aE H3.out HB.out.2);have z0:=aA hx4 0;have z1:=aA hx4 1;have z2:=aA hx4 2;have zf:=fun i=>frozen_of_row w4 W.heap.size i _ _ hx4;have zl:=aC hx4;have H4:=qAq (qBq (aB (aB HB.out.1 H3.out) hb4) hx4);clear hx4 hb4))
 have hS:=jT H4.out.2 (.int .i64 uk) (.int .i64 un) (.string us);have hBel:=((H4.out.1.setCell (p:=⟨W.heap.size,0,none⟩) (Nat.le_refl _) (.int .i64 uk)).setCell (p:=⟨W.heap.size,1,none⟩) (Nat.le_refl _) (.int .i64 un)).setCell (p:=⟨W.heap.size,2,none⟩) (Nat.le_refl _) (.string us);generalize ((w4.setCell _ _).setCell _ _).setCell _ _=wz at hS hBel ⊢;have y0:=aA hS 0;have y1:=aA hS 1;have y2:=aA hS 2;refine bodyPost_ret (v:=.tuple #[(Value.agg #[Value.int .i64 (uk),Value.int .i64 (un),Value.string (us)]),.bool true]) (by simp[results,Tryz.results132,go_sem,y0,y1,y2]) rfl ?_;exact⟨rfl,hBel⟩
end
