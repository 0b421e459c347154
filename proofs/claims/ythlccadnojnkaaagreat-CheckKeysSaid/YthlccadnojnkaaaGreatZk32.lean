import Derived.Test.YthlccadnojnkaaaGreatZk18
import Derived.Test.YthlccadnojnkaaaGreatZk29
import Derived.Test.YthlccadnojnkaaaGreatZk23
set_option maxHeartbeats 4000000
set_option maxRecDepth 100000
namespace Go.Proofs.YthlccadnojnkaaaGreat
open Go Go.RowKit Go.Proofs Co Co.S
def PmS (W:World) (v:Value) (f:ByteArray->Option Nat) (n m:Nat):Prop:=(v=.map none/\n=0/\∀ x,f x=none)∨∃ b,v=.map (some b)/\Mp W b f n m
def mblk:Value->Option Nat
 | .map b=>b
 | _=>none
section
variable {W W':World} {v mv:Value} {n m:Nat} {f:ByteArray->Option Nat} {d:Nat} {ts:List T}
theorem PmS.of (h:PmS W v f n m) (hk:∀ b,mblk v=some b->W'.heap[b]?=W.heap[b]?):PmS W' v f n m:=by
 rcases h with h|⟨b,rfl,h⟩
 ·exact .inl h
 exact .inr ⟨b,rfl,h.of (hk b rfl)⟩
theorem PmS.lt (h:PmS W v f n m):∀ b,mblk v=some b->b<W.heap.size:=by
 intro b hb;rcases h with ⟨rfl,_⟩ | ⟨b',rfl,h⟩
 ·cases hb
 cases hb;exact h.lt
theorem Sch.mapc (h:Sch mv W d ts):W.cell? ⟨d,33,none⟩=some mv/\d<W.heap.size/\∀ j,W.frozen? ⟨d,j,none⟩=false:=by
 obtain⟨h0,xs,rest,h1,h2,h3⟩:=h;refine⟨?_,aC h1,fun j=>frozen_of_row W d j _ _ h1⟩;rw[aA h1,List.getElem?_toArray,List.getElem?_append_right (by omega),List.getElem?_append_right (by omega),show 33-xs.length-rest.length=1 by omega];rfl
theorem Sch.setmap (h:Sch mv W d ts) (v':Value):Sch v' (W.setCell ⟨d,33,none⟩ v') d ts:=by
 obtain⟨h0,xs,rest,h1,h2,h3⟩:=h;have hs:=heap_setCell_same W d 33 _ _ v' h1
 have e:((xs++(rest++[Value.int .i64 (ts.length:Int),mv])).toArray.setIfInBounds 33 v')=(xs++(rest++[Value.int .i64 (ts.length:Int),v'])).toArray:=by
  have e2:xs++(rest++[Value.int .i64 (ts.length:Int),mv])=(xs++rest++[Value.int .i64 (ts.length:Int)])++[mv]:=(by simp);rw[List.setIfInBounds_toArray,e2,show 33=33+0 from rfl,gJ _ 33 0 _ _ (by simp;omega)]
  simp
 rw[e] at hs;exact⟨h0,xs,rest,hs,h2,h3.kp (aDj h1 rfl (fun q hq=>heap_setCell_other W ⟨d,33,none⟩ q v' hq))⟩
theorem gK (h:Sch mv W d ts) (hm:PmS W mv f n m) {x:ByteArray} (hx:x.size<=maxLen):Calls Tryz.prog 62 #[.pointer (some ⟨d,0,none⟩),.string x] W fun e w'=>e=.returned (ptrV (f x))/\w'=W:=by
 obtain⟨c,l,_⟩:=h.mapc
 have hl:(Instr.lookup 120 mv (.string x) false).run Tryz.prog W=.ok (ptrV (f x)) W:=by
  rcases hm with ⟨rfl,_,hf⟩ | ⟨b,rfl,hb⟩
  ·rw[hf x];exact xC hx W
  exact hb.look hx
 clear h hm hx;go_enter Tryz.func62,Tryz.ntmps62;go_wp2_with fail;go_ret;exact⟨rfl,rfl⟩
theorem bF (_h:d<W.heap.size):Calls Tryz.prog 43 #[.pointer (some ⟨d,0,none⟩)] W fun e w'=>e=.returned (Value.pointer (some ⟨d,0,none⟩))/\w'=W:=by
 go_enter Tryz.func43,Tryz.ntmps43;go_wp2_with fail;go_ret;exact⟨rfl,rfl⟩
theorem Sch.turnM (h:Sch mv W d ts) {b:Nat} (hne:b≠d) (hg:W.grownBy W' (some b)) (hb:∃ es ck,W.heap[b]?=some (.map es ck)):Sch mv W' d ts:=by
 obtain⟨h0,xs,rest,h1,h2,h3⟩:=h;refine⟨h0,xs,rest,(hg.block d (aC h1) (fun e=>hne (by cases e;rfl))).trans h1,h2,h3.kp (fun q cur e m hq _ _=>?_)⟩;refine (hg.block q (aC hq) (fun e=>?_)).trans hq;obtain⟨es,ck,h4⟩:=hb;cases e;rw[hq] at h4;cases h4
theorem aFs (w:World):(binOp .eql 120 (.map none) (.map none)).run Tryz.prog w=.ok (.bool true) w:=by kernel_rfl
theorem aDq (b:Nat) (w:World):(binOp .eql 120 (.map (some b)) (.map none)).run Tryz.prog w=.ok (.bool false) w:=by kernel_rfl
def PutR (W:World) (d:Nat) (mv:Value) (ts:List T) (f:ByteArray->Option Nat) (n m:Nat) (x:ByteArray) (tb:Nat) (w:World):Prop :=
 ∃ b,Sch (.map (some b)) w d ts/\Mp w b (upS f x tb) (n+1) (m+1)/\(mblk mv=some b∨W.heap.size<=b)/\Chg (fun q=>q=d∨mblk mv=some q) W w
theorem tV (h:Sch mv W d ts) (hm:PmS W mv f n m) {x:ByteArray} (hx:x.size<=maxLen) (hf:f x=none) (hm6:m<=1000000) (tb:Nat):Calls Tryz.prog 64 #[.pointer (some ⟨d,0,none⟩),.string x,.pointer (some ⟨tb,0,none⟩)] W fun e w'=>e=.returned (.tuple #[])/\PutR W d mv ts f n m x tb w':=by
 obtain⟨c,l,fz⟩:=h.mapc;have fz:=fz 33;rcases hm with ⟨rfl,rfl,hf0⟩ | ⟨b,rfl,hb⟩
 ·have hmk:(Instr.makeMap 120 none).run Tryz.prog W=.ok (.map (some W.heap.size)) (W.alloc (.map #[] 0)):=(by kernel_rfl);have hbl:=aD W (.map #[] 0);have h1:=(h.later hbl).setmap (.map (some W.heap.size));have hch:=(Chg.of_below (S:=fun q=>q=d∨mblk (Value.map none)=some q) hbl).setCell (p:=⟨d,33,none⟩) (fun _=>.inl rfl) (.map (some W.heap.size));have hne:W.heap.size≠d:=(by omega);have hmm:=(Mp.made W).of (heap_setCell_other (W.alloc (.map #[] 0)) ⟨d,33,none⟩ W.heap.size (.map (some W.heap.size)) hne);have hff:(fun _:ByteArray=>(none:Option Nat))=f:=(by funext y;rw[hf0 y]);rw[hff] at hmm;have c1:=h1.mapc;have c0:=(h.later hbl).mapc;obtain⟨w2,hw2⟩:∃ w2,(W.alloc (.map #[] 0)).setCell ⟨d,33,none⟩ (.map (some W.heap.size))=w2:=⟨_,rfl⟩;obtain⟨B,hB⟩:∃ B,W.heap.size=B:=⟨_,rfl⟩;rw[hw2] at h1 hch hmm c1;rw[hB] at h1 hmm c1 hmk hw2 hne;obtain⟨w3,hrun,hp,hg⟩:=hmm.put (p:=tb) hx hf (Nat.zero_le _);obtain⟨c2,l2,_⟩:=c1;obtain⟨c3,l3,fz3⟩:=c0;have fz3:=fz3 33;have hBl:B<=w2.heap.size:=(by have:=hmm.lt;omega);have hch3:Chg (fun q=>q=d∨mblk (Value.map none)=some q) W w3:=hch.trans (S1:=fun q=>q=B) ⟨hg.os,hg.tape,hg.output,hg.size,fun q hq hn=>hg.block q hq (fun e=>hn (by cases e;rfl))⟩ (fun _ _ h=>h) (fun q hq (h:q=B)=>absurd hq (by omega));have h3:Sch (.map (some B)) w3 d ts:=h1.turnM (b:=B) hne hg hmm.isMap;have HR:=qAq (qBq h3 (qBq hp hch3));have HW:=qAq hw2;clear h h1 hch hmm hp hch3 h3 hg hw2 hf0 hff hbl;have he:=aFs W;go_enter Tryz.func64,Tryz.ntmps64;go_upto_region 2 with fail;rw[HW.out];go_wp2_with (at_mapUpdate;refine fA rfl (.tmp 18) (.tmp 19) (.tmp 20) 120 rfl rfl rfl rfl hrun ?_)
  go_end0
  exact⟨rfl,B,HR.out.1,HR.out.2.1.mono (by omega),.inr (by omega),HR.out.2.2⟩
 obtain⟨w3,hrun,hp,hg⟩:=hb.put (p:=tb) hx hf hm6
 have h3:Sch (.map (some b)) w3 d ts:=h.turnM (b:=b) (fun e=>by
  obtain⟨es,ck,h1⟩:=hb.isMap;obtain⟨_,xs,rest,h2,_⟩:=h;rw[e,h2] at h1;cases h1) hg hb.isMap
 have hch3:Chg (fun q=>q=d∨mblk (Value.map (some b))=some q) W w3:=⟨hg.os,hg.tape,hg.output,hg.size,fun q hq hn=>hg.block q hq (fun e=>hn (.inr e.symm))⟩;have HR:=qAq (qBq h3 (qBq hp hch3));clear h hb hp hg h3 hch3;have he:=aDq b W;go_enter Tryz.func64,Tryz.ntmps64;go_wp2_with (at_mapUpdate;refine fA rfl (.tmp 18) (.tmp 19) (.tmp 20) 120 rfl rfl rfl rfl hrun ?_)
 go_end0
 exact⟨rfl,b,HR.out.1,HR.out.2.1,.inl rfl,HR.out.2.2⟩
end
section
variable {W W':World} {mv:Value} {n m:Nat} {f:ByteArray->Option Nat} {d:Nat} {ts:List T}
theorem PmS.later (h:PmS W mv f n m) (hb:Below W.heap.size W W'):PmS W' mv f n m:=h.of (fun b hb2=>hb.block b (h.lt b hb2))
theorem rI (h:Sch mv W d ts) (hm:PmS W mv f n m) {x:ByteArray} (hx:x.size<=maxLen) {tb:Nat} (hf:f x=some tb):Calls Tryz.prog 29 #[.pointer (some ⟨d,0,none⟩),.string x] W fun e w'=>e=.returned (Value.pointer (some ⟨tb,0,none⟩))/\w'=W:=by
 have hrows:Calls Tryz.prog 62 #[.pointer (some ⟨d,0,none⟩),.string x] W fun e w'=>e=.returned (Value.pointer (some ⟨tb,0,none⟩))/\w'=W:=by
  have:=gK h hm hx
  rw[hf] at this;exact this
 clear h hm hf;go_enter Tryz.func29,Tryz.ntmps29;go_wp2_with (go_at_call 62;(with_reducible refine hrows.mono ?_);rintro e w2 ⟨rfl,hw⟩;subst w2;clear hrows);go_ret;exact⟨rfl,rfl⟩
theorem tW (h:Sch mv W d ts) (hm:PmS W mv f n m) {x:ByteArray} (hx:x.size<=maxLen) (hf:f x=none) (hno:hasT ts x=false) (hfew:AllFew ts):Calls Tryz.prog 29 #[.pointer (some ⟨d,0,none⟩),.string x] W fun e w'=>e=.returned (.pointer none)/\Below W.heap.size W w':=by
 have hrows:Calls Tryz.prog 62 #[.pointer (some ⟨d,0,none⟩),.string x] W fun e w'=>e=.returned (.pointer none)/\w'=W:=by
  have:=gK h hm hx
  rw[hf] at this;exact this
 have hs:=bF (d:=d) h.mapc.2.1;have hfi:=eP (x:=x) h.p hfew;rw[hno] at hfi;clear h hm hf hno hfew;go_enter Tryz.func29,Tryz.ntmps29
 go_wp2_with (first
  | (go_at_call 62;(with_reducible refine hrows.mono ?_);rintro e w2 ⟨rfl,hw⟩;subst w2;clear hrows)
  | (go_at_call 43;(with_reducible refine hs.mono ?_);rintro e w2 ⟨rfl,hw⟩;subst w2;clear hs)
  | (go_at_call 45;(with_reducible refine hfi.mono ?_);rintro e w3 ⟨p1,n1,c1,p2,n2,c2,rfl,_,hb⟩;have H3:=qAq (aB hb (aD w3 (.cells #[.string (orT (findT ts x)).nm,.slice p1 n1 c1,.string (orT (findT ts x)).key,.slice p2 n2 c2] 77)));clear hfi hb))
 go_ret;exact⟨rfl,H3.out⟩
def NewT (W:World) (d:Nat) (mv:Value) (ts:List T) (f:ByteArray->Option Nat) (n m:Nat) (x:ByteArray) (e:Ending) (w:World):Prop :=
 ∃ tb b lab,e=.returned (Value.pointer (some ⟨tb,0,none⟩))/\Sch (.map (some b)) w d ts/\Mp w b (upS f x tb) (n+1) (m+1)/\Tb w tb (orT (findT ts x)) 0 [] lab/\(∀ q,lab q≠0->W.heap.size<=q/\q≠b)/\(mblk mv=some b∨W.heap.size<=b)/\Tn (fun q=>q=d∨mblk mv=some q) W w
theorem xP (h:Sch mv W d ts) (hm:PmS W mv f n m) {x:ByteArray} (hx:x.size<=maxLen) (hf:f x=none) (hyes:hasT ts x=true) (hfew:AllFew ts) (hkd:∀ c∈(orT (findT ts x)).cols,c.kd=1∨c.kd=2) (hm6:m<=1000000):Calls Tryz.prog 29 #[.pointer (some ⟨d,0,none⟩),.string x] W (NewT W d mv ts f n m x):=by
 have hrows:Calls Tryz.prog 62 #[.pointer (some ⟨d,0,none⟩),.string x] W fun e w'=>e=.returned (.pointer none)/\w'=W:=by
  have:=gK h hm hx
  rw[hf] at this;exact this
 have hs:=bF (d:=d) h.mapc.2.1;have hfi:=eP (x:=x) h.p hfew;have hft:=tP hfew x;unfold NewT;rw[hyes] at hfi;obtain⟨t,ht⟩:∃ t,orT (findT ts x)=t:=⟨_,rfl⟩;rw[ht] at hfi hft hkd ⊢;obtain⟨nm,hnm⟩:∃ v,t.nm=v:=⟨_,rfl⟩;obtain⟨key,hkey⟩:∃ v,t.key=v:=⟨_,rfl⟩;have H:=qAq (qBq h (qBq hm (qBq hft (qBq hkd (qBq hnm hkey)))));have HM:=qAq (qBq hf hm6);clear h hm hf hyes hfew ht hft hkd hm6;unfold GivesT at hfi;rw[hnm,hkey] at hfi;clear hnm hkey;go_enter Tryz.func29,Tryz.ntmps29
 go_upto_region 5 with (first
  | (go_at_call 62;(with_reducible refine hrows.mono ?_);rintro e w2 ⟨rfl,hw⟩;subst w2;clear hrows)
  | (go_at_call 43;(with_reducible refine hs.mono ?_);rintro e w2 ⟨rfl,hw⟩;subst w2;clear hs)
  | (go_at_call 45;(with_reducible refine hfi.mono ?_);rintro e w3 ⟨p1,n1,c1,p2,n2,c2,rfl,hr,hb⟩;have H3:=qAq (qBq hr hb);clear hfi hr hb))
 have hbl:=aD w3 (.cells #[.string nm,.slice p1 n1 c1,.string key,.slice p2 n2 c2] 77);have hV:=heap_alloc_new w3 (.cells #[.string nm,.slice p1 n1 c1,.string key,.slice p2 n2 c2] 77);obtain⟨w4,hw4⟩:∃ w4,w3.alloc (.cells #[.string nm,.slice p1 n1 c1,.string key,.slice p2 n2 c2] 77)=w4:=⟨_,rfl⟩;obtain⟨V,hVe⟩:∃ V,w3.heap.size=V:=⟨_,rfl⟩;rw[hw4] at hbl hV ⊢;rw[hVe] at hV ⊢;have hrd:RdT w4 (.slice p1 n1 c1) (.slice p2 n2 c2) t:=H3.out.1.kp (Tn.of_below (S:=fun _=>False) hbl).kpX;have hb4:Below W.heap.size W w4:=aB H3.out.2 hbl;have v0:=aA hV 0;have v1:=aA hV 1;have v2:=aA hV 2;have v3:=aA hV 3;have vl:=aC hV;have hnew:=mX hrd H.out.2.2.1 H.out.2.2.2.1;rw[H.out.2.2.2.2.1,H.out.2.2.2.2.2] at hnew;have H4:=qAq hb4;clear hbl hV hw4 hVe hrd hb4
 go_wp2_with (first
  | (go_at_call 63;(with_reducible refine hnew.mono ?_);rintro e w5 ⟨tb,lab,rfl,hT,hlo,hb5⟩;have hb5':=aB H4.out hb5;have hput:=tV (tb:=tb) (H.out.1.later hb5') (H.out.2.1.later hb5') hx HM.out.1 HM.out.2;have H5:=qAq (qBq hT (qBq (fun q hq=>Nat.le_trans H4.out.size (hlo q hq)) hb5'));clear hnew hT hlo hb5 hb5')
  | (go_at_call 64;(with_reducible refine hput.mono ?_);rintro e w6 ⟨rfl,hP⟩;have H6:=qAq hP;clear hput hP))
 go_ret;obtain⟨hT,hlo,hb5⟩:=H5.out;obtain⟨b,q1,q2,q3,q4⟩:=H6.out;have hdl:=H.out.1.mapc.2.1;have hml:=H.out.2.1.lt;have hS5:=H.out.1.later hb5
 have htn:Tn (fun q=>q=d∨mblk mv=some q) w5 w6:=Tn.of_chg q4 (fun q _ hq=>by
  rcases hq with rfl|hq
  ·obtain⟨_,xs,rest,k1,_⟩:=hS5;exact .inl ⟨_,122,k1,rfl⟩
  rcases H.out.2.1.later hb5 with ⟨rfl,_⟩ | ⟨b',rfl,hb'⟩
  ·cases hq
  cases hq;exact .inr hb'.isMap)
 have hz:=hb5.size;refine⟨tb,b,lab,rfl,q1,q2,hT.tn htn (fun q hq=>Classical.byContradiction fun hn=>?_),fun q hq=>⟨hlo q hq,fun e=>?_⟩,q3.imp (fun h=>h) (fun h=>by omega),(Tn.of_below (S:=fun q=>q=d∨mblk mv=some q) hb5).trans htn (fun _ _ h=>h) (fun _ _ h=>h)⟩
 ·have:=hlo q hn
  rcases hq with rfl|hq
  ·omega
  have:=hml q hq;omega
 subst e;have h1:=hlo q hq;have h2:=hT.lt q hq;rcases q3 with h3|h3
 ·have:=hml q h3;omega
 omega
end
abbrev DT:Type:=Nat×Nat×List R1
structure Dd (W:World) (d:Nat) (ts:List T) (st:List DT) (O:Nat->Nat):Prop where
 own:∃ mv f n,Sch mv W d ts/\PmS W mv f n ts.length/\(∀ j (h:j<ts.length) (h':j<st.length),f ts[j].nm=some st[j].1)/\(∀ x,hasT ts x=false->f x=none)/\∀ b,mblk mv=some b->O b=1
 len:st.length=ts.length
 nd:∀ j k (hj:j<ts.length) (hk:k<ts.length),ts[j].nm=ts[k].nm->j=k
 od:O d=1
 tab:∀ j (h:j<ts.length) (h':j<st.length),∃ lab,Tb W st[j].1 ts[j] st[j].2.1 st[j].2.2 lab/\∀ q,lab q≠0->O q=j+2
 lt:∀ q,O q≠0->q<W.heap.size
section
variable {W W':World} {d:Nat} {ts:List T} {st:List DT} {O O':Nat->Nat} {S:Nat->Prop}
theorem Sch.tn {mv:Value} (h:Sch mv W d ts) (hk:Tn S W W') (hd:¬ S d):Sch mv W' d ts:=by
 obtain⟨h0,xs,rest,h1,h2,h3⟩:=h;exact⟨h0,xs,rest,(hk.chg.block d (aC h1) hd).trans h1,h2,h3.kp hk.kpX⟩
theorem Dd.tn (h:Dd W d ts st O) (hk:Tn S W W') (hs:∀ q,S q->O q=0):Dd W' d ts st O:=by
 obtain⟨mv,f,n,k1,k2,k3,k4,k5⟩:=h.own;refine⟨⟨mv,f,n,k1.tn hk (fun hS=>by have:=hs d hS;rw[h.od] at this;cases this),k2.of (fun b hb=>hk.chg.block b (k2.lt b hb) (fun hS=>by have:=hs b hS;rw[k5 b hb] at this;cases this)),k3,k4,k5⟩,h.len,h.nd,h.od,fun j a b=>?_,fun q hq=>Nat.lt_of_lt_of_le (h.lt q hq) hk.size⟩;obtain⟨lab,q1,q2⟩:=h.tab j a b;exact⟨lab,q1.tn hk (fun q hq=>Classical.byContradiction fun hn=>by have:=q2 q hn;rw[hs q hq] at this;omega),q2⟩
theorem Dd.later (h:Dd W d ts st O) (hb:Below W.heap.size W W'):Dd W' d ts st O:=h.tn (S:=fun _=>False) (Tn.of_below hb) (fun _ h=>h.elim)
theorem aDr {ts:List T} {x:ByteArray} {t:T} (h:findT ts x=some t):∃ j,∃ hj:j<ts.length,ts[j]=t/\t.nm=x:=by
 unfold findT at h;obtain⟨h1,j,hj,h2,_⟩:=List.find?_eq_some_iff_getElem.1 h;refine⟨j,hj,h2,?_⟩;unfold isT eqS at h1;exact dQ (by simpa using h1)
theorem Dd.table (h:Dd W d ts st O) {j:Nat} (hj:j<ts.length) (hx:ts[j].nm.size<=maxLen) (hj':j<st.length):Calls Tryz.prog 29 #[.pointer (some ⟨d,0,none⟩),.string ts[j].nm] W fun e w'=>e=.returned (Value.pointer (some ⟨st[j].1,0,none⟩))/\w'=W:=by
 obtain⟨mv,f,n,k1,k2,k3,k4,k5⟩:=h.own;exact rI k1 k2 hx (k3 j hj hj')
theorem Dd.notable (h:Dd W d ts st O) (hfew:AllFew ts) {x:ByteArray} (hx:x.size<=maxLen) (hno:hasT ts x=false):Calls Tryz.prog 29 #[.pointer (some ⟨d,0,none⟩),.string x] W fun e w'=>e=.returned (.pointer none)/\Below W.heap.size W w':=by
 obtain⟨mv,f,n,k1,k2,k3,k4,k5⟩:=h.own;exact tW k1 k2 hx (k4 x hno) hno hfew
theorem Dd.turn (h:Dd W d ts st O) {j:Nat} (hj:j<ts.length) (hj':j<st.length) {f:FuncId} {args:Array Value} {R:Ending->Prop} {n':Nat} {A':List R1}
  (k:∀ lab,Tb W st[j].1 ts[j] st[j].2.1 st[j].2.2 lab->(∀ q,lab q≠0->O q=j+2)->Calls Tryz.prog f args W fun e w'=>R e/\∃ lab',Tb w' st[j].1 ts[j] n' A' lab'/\Ext W lab lab'/\Tn (fun q=>lab q≠0) W w') :
  Calls Tryz.prog f args W fun e w'=>R e/\∃ O',Dd w' d ts (st.set j (st[j].1,n',A')) O'/\Ext W O O'/\Tn (fun q=>O q=j+2) W w':=by
 obtain⟨lab,t1,t2⟩:=h.tab j hj hj';refine (k lab t1 t2).mono ?_;rintro e w' ⟨hR,lab',k1,k2,k3⟩;have htn:Tn (fun q=>O q=j+2) W w':=k3.mono (fun q _ hq=>t2 q hq);have hE:∀ q,q<W.heap.size->(if q<W.heap.size then O q else if lab' q≠0 then j+2 else 0)=O q:=(fun q hq=>if_pos hq);refine⟨hR,fun q=>if q<W.heap.size then O q else if lab' q≠0 then j+2 else 0,⟨?_,by rw[List.length_set];exact h.len,h.nd,?_,fun m hm hm'=>?_,fun q hq=>?_⟩,hE,htn⟩
 ·obtain⟨mv,f,n,c1,c2,c3,c4,c5⟩:=h.own;refine⟨mv,f,n,c1.tn htn (fun hS=>by have:O d=j+2:=hS;rw[h.od] at this;omega),c2.of (fun b hb=>htn.chg.block b (c2.lt b hb) (fun hS=>by have:O b=j+2:=hS;rw[c5 b hb] at this;omega)),fun m hm hm'=>?_,c4,fun b hb=>(hE b (c2.lt b hb)).trans (c5 b hb)⟩;have hms:m<st.length:=(by rw[h.len];exact hm);by_cases e:j=m
  ·subst e;rw[List.getElem_set_self];exact c3 j hm hms
  rw[List.getElem_set_ne e];exact c3 m hm hms
 ·have hd:=h.lt d (by rw[h.od];decide);exact (hE d hd).trans h.od
 ·have hms:m<st.length:=(by rw[h.len];exact hm);by_cases e:j=m
  ·subst e;rw[List.getElem_set_self];refine⟨lab',k1,fun q hq=>?_⟩;show (if q<W.heap.size then O q else if lab' q≠0 then j+2 else 0)=j+2;by_cases hlt:q<W.heap.size
   ·rw[if_pos hlt];rw[k2 q hlt] at hq;exact t2 q hq
   rw[if_neg hlt,if_pos hq]
  rw[List.getElem_set_ne e];obtain⟨lm,m1,m2⟩:=h.tab m hm hms;refine⟨lm,m1.tn htn (fun q hq=>Classical.byContradiction fun hn=>by have h1:=m2 q hn;have h2:O q=j+2:=hq;omega),fun q hq=>(hE q (m1.lt q hq)).trans (m2 q hq)⟩
 have hq:(if q<W.heap.size then O q else if lab' q≠0 then j+2 else 0)≠0:=hq;by_cases hlt:q<W.heap.size
 ·have:=htn.size;omega
 rw[if_neg hlt] at hq;by_cases hl:lab' q≠0
 ·exact k1.lt q hl
 rw[if_neg hl] at hq;exact absurd rfl hq
end
