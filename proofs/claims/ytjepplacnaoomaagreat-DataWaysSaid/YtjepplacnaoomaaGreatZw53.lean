import Derived.Test.YtjepplacnaoomaaGreatZw52
import Derived.Test.YtjepplacnaoomaaGreatZw10
set_option maxHeartbeats 8000000
set_option maxRecDepth 100000
namespace Go.Proofs.YtjepplacnaoomaaGreat
open Go Go.RowKit Go.Proofs Co Co.S
section
variable {B:Nat} {ov:Value} {ovs:List Value} {out:List (List ByteArray)} {g off n cap:Nat} {tvs:List Value} {td:List (List ByteArray)} {w w':World}
structure BF (B:Nat) (ov:Value) (ovs:List Value) (out:List (List ByteArray)) (g off n cap:Nat) (tvs:List Value) (td:List (List ByteArray)) (w:World):Prop where
 o:PR B ov ovs out w
 t:QR B g off n cap tvs w
 nn:td.length=n
 tw:∀ j (h:j<tvs.length) (h':j<td.length),Wd w tvs[j] td[j]
 ne:∀ k,ov.ownBlock=some k->k≠g
 sz:B<=w.heap.size
theorem BF.on (h:BF B ov ovs out g off n cap tvs td w) (hb:Below w.heap.size w w'):BF B ov ovs out g off n cap tvs td w' :=
 ⟨h.o.on hb,h.t.of (hb.block g h.t.lt),h.nn,fun j a b=>(h.tw j a b).later hb,h.ne,Nat.le_trans h.sz hb.size⟩
theorem BF.tl (h:BF B ov ovs out g off n cap tvs td w):tvs.length=td.length:=h.t.1.trans h.nn.symm
theorem BF.oput (h:BF B ov ovs out g off n cap tvs td w) {u:Value} {a:List ByteArray} (hu:Wd w u a) (hl:out.length<=100000) {m ty:Nat} (hm:out.length+1=m) :
  ∃ g2 c2 w',(Builtin.append_ #[53,53] ty #[ov,.slice (some ⟨w.heap.size,0,none⟩) 1 1]).run Tryz.prog (w.alloc (.cells #[u] 24))=.ok (.slice (some ⟨g2,0,none⟩) m c2) w' /\
   BF B (.slice (some ⟨g2,0,none⟩) m c2) (ovs++[u]) (out++[a]) g off n cap tvs td w'/\Below B w w'/\Kn w w':=by
 subst hm;obtain⟨p,c,e,_⟩:=hu.slice
 obtain⟨g2,c2,w',h1,h2,h3,h4⟩:=app_one (ty:=ty) Tryz.underlying53 infoP24 (by kernel_rfl) (by decide) (by decide) w B h.o.row (by omega) h.sz #[u] rfl (by
  intro x hx;simp only[List.mem_cons,List.not_mem_nil,or_false] at hx;subst hx;rw[e];rfl)
 have hk:=Kn.grown h.o.row h3;have hbw:=below_row h.o.row h3 (Nat.le_refl _) h.sz;refine⟨g2,c2,w',h1,⟨⟨by rw[List.length_append];exact h2,fun j x y=>?_⟩,h.t.of (h3.block g h.t.lt (fun e=>h.ne g e.symm rfl)),h.nn,fun j a b=>(h.tw j a b).kp hk.kp9,fun k hk2=>?_,Nat.le_trans h.sz hbw.size⟩,hbw,hk⟩
 ·by_cases e:j<ovs.length
  ·have e2:j<out.length:=(by rw[<- h.o.n];exact e);rw[List.getElem_append_left e,List.getElem_append_left e2];exact (h.o.each j e e2).kp hk.kp9
  ·have hn:=h.o.n;have e2:j=ovs.length:=(by simp at x;omega);subst e2;have e3:(ovs++[u])[ovs.length]=u:=(by simp);have e4:(out++[a])[ovs.length]=a:=(by simp[hn]);rw[e3,e4];exact hu.kp hk.kp9
 ·have e1:g2=k:=(by simpa [Value.ownBlock] using hk2);subst e1;rcases h4 with h4|h4
  ·exact h.ne g2 h4
  ·have:=h.t.lt;omega
theorem BF.tput (h:BF B ov ovs out g off n cap tvs td w) {gb c1:Nat} {u:Value} {a:List ByteArray} (hb:w.heap[gb]?=some (.cells #[u] 24)) (hu:Wd w u a) (hl:n<=100000) {m ty:Nat} (hm:n+1=m) :
  ∃ g' off' cap' w',(Builtin.append_ #[53,53] ty #[.slice (some ⟨g,off,none⟩) n cap,.slice (some ⟨gb,0,none⟩) 1 c1]).run Tryz.prog w=.ok (.slice (some ⟨g',off',none⟩) m cap') w' /\
   BF B ov ovs out g' off' m cap' (tvs++[u]) (td++[a]) w'/\Below B w w'/\Kn w w':=by
 subst hm;obtain⟨p,c,e,_⟩:=hu.slice;obtain⟨g',off',cap',w',h1,h2,h3,h4⟩:=h.t.snoc (ty:=ty) (c1:=c1) hb (by rw[e];rfl) hl h.sz;have hBg:=h.t.2.1;obtain⟨_,_,_,_,cur,hgc,_⟩:=h.t;have hk:=Kn.one h3 hgc;have hbw:Below B w w':=grown_below h3 (fun q hq=>by cases hq;exact hBg) h.sz;refine⟨g',off',cap',w',h1,⟨⟨h.o.row.of (fun k hk2=>h3.block k (h.o.row.lt k hk2).2 (fun e=>h.ne k hk2 (by cases e;rfl))),fun j a b=>(h.o.each j a b).kp hk.kp9⟩,h2,by rw[List.length_append,h.nn];rfl,fun j x y=>?_,fun k hk2=>?_,Nat.le_trans h.sz hbw.size⟩,hbw,hk⟩
 ·have hn:=h.tl;by_cases e:j<tvs.length
  ·have e2:j<td.length:=(by rw[<- hn];exact e);rw[List.getElem_append_left e,List.getElem_append_left e2];exact (h.tw j e e2).kp hk.kp9
  ·have e2:j=tvs.length:=(by simp at x;omega);subst e2;have e3:(tvs++[u])[tvs.length]=u:=(by simp);have e4:(td++[a])[tvs.length]=a:=(by simp[hn]);rw[e3,e4];exact hu.kp hk.kp9
 ·rcases h4 with h4|h4
  ·rw[h4];exact h.ne k hk2
  ·have:=(h.o.row.lt k hk2).2;omega
theorem BF.tail {u:Value} {r:List Value} {p:List ByteArray} {q:List (List ByteArray)} (h:BF B ov ovs out g off (n+1) (cap+1) (u::r) (p::q) w):BF B ov ovs out g (off+1) n cap r q w :=
 ⟨h.o,h.t.tail,by have:=h.nn;simpa using this,fun j a b=>by
  have:=h.tw (j+1) (by simpa using a) (by simpa using b)
  simpa using this,h.ne,h.sz⟩
theorem BF.tail0 {u:Value} {r:List Value} {p:List ByteArray} {q:List (List ByteArray)} (h:BF B ov ovs out g off 1 1 (u::r) (p::q) w):BF B ov ovs out g off 0 0 r q w:=by
 have ht:=h.tail;obtain⟨h1,h2,h3,h4,cur,h5,h6,h7⟩:=ht.t;have hr:r=[]:=List.eq_nil_of_length_eq_zero h1;subst hr;exact⟨ht.o,⟨rfl,h2,Nat.le_refl _,Nat.zero_le _,cur,h5,by omega,fun j u hj=>by simp at hj⟩,ht.nn,ht.tw,ht.ne,ht.sz⟩
theorem BF.head {u:Value} {r:List Value} {p:List ByteArray} {q:List (List ByteArray)} (h:BF B ov ovs out g off n cap (u::r) (p::q) w):∃ a c,u=.slice a p.length c/\w.cell? ⟨g,off,none⟩=some (.slice a p.length c)/\Wd w (.slice a p.length c) p/\g<w.heap.size:=by
 have hw:=h.tw 0 (by simp) (by simp);simp only[List.getElem_cons_zero] at hw;obtain⟨a,c,e,_⟩:=hw.slice;have hc:=h.t.cell (j:=0) (u:=u) rfl;rw[Nat.add_zero] at hc;subst e;exact⟨a,c,rfl,hc,hw,h.t.lt⟩
def wayV (m:Nat) (q:List ByteArray):Par.VW:=⟨fun v w=>∃ a c,v=.slice a m c/\Wd w v q,fun _ _ _ ⟨a,c,h1,h2⟩ hb=>⟨a,c,h1,h2.later hb⟩⟩
def boxV (m:Nat) (q:List ByteArray):Par.VW:=⟨fun v w=>∃ g a c,v=.slice (some ⟨g,0,none⟩) 1 1/\w.heap[g]?=some (.cells #[.slice a m c] 24)/\Wd w (.slice a m c) q,fun _ _ _ ⟨g,a,c,h1,h2,h3⟩ hb=>⟨g,a,c,h1,heap_on hb h2,h3.later hb⟩⟩
theorem Kn.cells {w w':World} (h:Kn w w') {b:Nat} {cur:Array Value} {e:TypeId} {m:Nat×Nat} (hb:w.heap[b]?=some (.cells cur e m)) (he:e≠24):w'.heap[b]?=some (.cells cur e m):=h b cur e m hb he
end
theorem all_none {ts:List T} {tb:ByteArray} (h:findT ts tb=none):IsAll ts tb []:=by
 refine⟨List.Pairwise.nil,?_⟩;have e:waysP ts 4 tb []=[]:=(by unfold waysP;rw[colsAt_none h];rfl);rw[e]
theorem refCol_of {ts:List T} {pv v:Value} {tb:ByteArray} {p:List ByteArray} {W:World} {nm tg u:ByteArray} {kd er:Int} {mu:Bool} (h:RdTs W pv ts) (hp:Wd W v p) (hr:pcolL ts tb p=(⟨nm,kd,mu,tg⟩,u,er)):Calls Tryz.prog 64 #[pv,.string tb,v] W fun e w'=>e=.returned (.tuple #[.agg #[.string nm,.int .i64 kd,.bool mu,.string tg],.string u,.int .i64 er])/\Below W.heap.size W w':=by
 have:=refCol_any (tb:=tb) h hp.rd
 rw[hr] at this;exact this
theorem rall_any {ts:List T} {pv:Value} {tb:ByteArray} {W:World} (h:RdTs W pv ts) (hN:Nice ts):Calls Tryz.prog 23 #[pv,.string tb] W (AllOf ts tb W):=by
 obtain⟨pt,capt,rfl,hct,hmt⟩:=h.slice;obtain⟨N,hNt⟩:∃ n,ts.length=n:=⟨_,rfl⟩;obtain⟨S,hS⟩:∃ S,W.heap.size=S:=⟨_,rfl⟩;unfold maxLen at hmt;have hf:=rfind_any (x:=tb) h;rw[hNt] at hct h hf ⊢;have HP:=Lib.hid (And.intro h (And.intro hN (And.intro hNt hS)));rcases ixT_cases ts tb with ⟨h1,_,h3⟩ | ⟨k0,hk0,h1,_,h3⟩
 ·rw[h1] at hf;have HA:=Lib.hid (all_none h3);clear h hN hNt hS h1 h3;go_enter Tryz.func23,Tryz.ntmps23;go_wp2_with (go_at_call 46;(with_reducible refine hf.mono ?_);rintro e w1 ⟨rfl,hw⟩;have hw:=hw.symm;subst hw);go_ret;exact⟨_,_,_,[],[],rfl,rfl,HA.out,PR.nil _ _,Below.refl _ _⟩
 ·rw[h1] at hf;have HT:=Lib.hid (And.intro (show ∃ u,findT ts tb=some u from ⟨_,h3⟩) hk0);have hk00:decide ((k0:Int)<0)=false:=decide_eq_false (by omega);clear h hN hNt hS h1 h3 hk0;go_enter Tryz.func23,Tryz.ntmps23;go_upto_region 4 with (go_at_call 46;(with_reducible refine hf.mono ?_);rintro e w1 ⟨rfl,hw⟩;have hw:=hw.symm;subst hw);go_wp2_with fail;rw[HP.out.2.2.2]
  have hst:BF S (.slice none 0 0) [] [] (S+1) 0 1 1 [.slice (some ⟨S,0,none⟩) 0 0] [[]] ((W.alloc (.cells #[] 9)).alloc (.cells #[.slice (some ⟨S,0,none⟩) 0 0] 24))/\Below S W ((W.alloc (.cells #[] 9)).alloc (.cells #[.slice (some ⟨S,0,none⟩) 0 0] 24)):=by
   have b1:=below_alloc W (.cells #[] 9);have b2:=below_alloc (W.alloc (.cells #[] 9)) (.cells #[.slice (some ⟨S,0,none⟩) 0 0] 24);have k2:=heap_alloc_new (W.alloc (.cells #[] 9)) (.cells #[.slice (some ⟨S,0,none⟩) 0 0] 24);rw[World.size_alloc,HP.out.2.2.2] at k2;refine⟨⟨PR.nil _ _,⟨rfl,by omega,Nat.le_refl _,by decide,_,k2,by simp,fun j u hj=>?_⟩,rfl,fun j a b=>?_,fun k hk=>by simp[Value.ownBlock] at hk,?_⟩,by have hb:=below_on b1 b2;rwa [HP.out.2.2.2] at hb⟩
   ·rw[Nat.zero_add,List.getElem?_toArray];exact hj
   ·have:j=0:=(by simp at a;omega);subst this;exact⟨_,0,rfl,Nat.le_refl _,Nat.zero_le _,fun a h=>(by cases h;rfl),fun h=>absurd h (Nat.lt_irrefl _)⟩
   ·rw[World.size_alloc,World.size_alloc,HP.out.2.2.2];omega
  obtain⟨w0,hw0⟩:∃ w0,(W.alloc (.cells #[] 9)).alloc (.cells #[.slice (some ⟨S,0,none⟩) 0 0] 24)=w0:=⟨_,rfl⟩;rw[hw0] at hst ⊢;have H0:=Lib.hid hst;clear hst hw0 hf hk00;go_loopg [5,6] 1556 (fun gh ov tv w=>∃ (g off n cap mo:Nat) (po:Option Addr) (co:Nat) (ovs tvs:List Value) (out td:List (List ByteArray)),ov=.slice po mo co/\tv=.slice (some ⟨g,off,none⟩) n cap/\mo=out.length/\BF S (.slice po mo co) ovs out g off n cap tvs td w/\Qi ts tb out td/\work ts tb td+1<=gh/\Below S W w/\work ts tb td<=1555)
  case atStart=>exact⟨S+1,0,1,1,0,none,0,[],[.slice (some ⟨S,0,none⟩) 0 0],[],[[]],rfl,rfl,rfl,H0.out.1,Qi.start ts tb,by have:=work_start HP.out.2.1 tb;omega,H0.out.2,work_start HP.out.2.1 tb⟩
  case round =>
   obtain⟨g,off,n,cap,mo,po,co,ovs,tvs,out,td,rfl,rfl,hmo,hBF,hQ,hg,hB,hwb⟩:=hrel;obtain⟨w1,rfl⟩:∃ w1,w1=wr:=⟨_,rfl⟩;cases td with
   | nil =>
    obtain rfl:n=0:=hBF.nn.symm;have hpm:=hQ.done;have hsrt:=sorted_any hBF.o (hpm.nodup_iff.2 (nodup_ways HP.out.2.1 4 tb [])) (by have h1:=hpm.length_eq;have h2:=ways_len HP.out.2.1 4 tb [];have h3:=manyW_le 4 (by omega);omega);have HB:=Lib.hid (And.intro hB (And.intro hpm hmo));have hS1:S<=w1.heap.size:=hBF.sz;have HS1:=Lib.hid hS1;clear hBF hQ hB hmo hpm hS1;go_wp2_with (go_at_call 67;(with_reducible refine hsrt.mono ?_);rintro e w2 ⟨p2,m2,c2,us,qs,rfl,hm2,hP2,hpm2,hpw,hb2⟩;have H2:=Lib.hid (And.intro hm2 (And.intro hP2 (And.intro hpm2 (And.intro hpw hb2))));clear hm2 hP2 hpm2 hpw hb2);go_ret;have hWS:W.heap.size<=w1.heap.size:=(by rw[HP.out.2.2.2];exact HS1.out);exact⟨_,_,_,us,qs,rfl,H2.out.1,⟨H2.out.2.2.2.1,H2.out.2.2.1.trans HB.out.2.1⟩,H2.out.2.1.mono hWS,(HP.out.2.2.2▸HB.out.1).trans (H2.out.2.2.2.2.mono hWS)⟩
   | cons p r =>
    cases tvs with
    | nil=>exact absurd hBF.tl (by simp)
    | cons u tr =>
     obtain⟨nr,hnr⟩:∃ k,n=k+1:=⟨r.length,by have:=hBF.nn;simpa using this.symm⟩;subst hnr;obtain⟨cq,hcq⟩:∃ k,cap=k+1:=⟨cap-1,by have:=hBF.t.2.2.1;omega⟩;subst hcq;obtain⟨ap,cp,rfl,hc0,hwp,hgl⟩:=hBF.head;have hok:=hQ.ok p (by simp);obtain⟨lp,hlp⟩:∃ k,p.length=k:=⟨_,rfl⟩;have hlp4:lp<=4:=(by have:=hok.2;omega);rw[hlp] at hc0 hwp hBF;have hnrl:nr=r.length:=(by have:=hBF.nn;simp at this;omega);have hwl:=work_le ts tb r;have hwc:=work_cons ts tb p r;have hkm:cq<=2 ^ 63-2:=(by have:=hBF.t.2.2.2.1;unfold maxLen at this;omega);have hnq:nr<=cq:=(by have:=hBF.t.2.2.1;omega);have HLP:=Lib.hid hlp;have HNR:=Lib.hid (show nr=r.length/\nr<=100000-100 from ⟨hnrl,by omega⟩);have HOK:=Lib.hid hok;have HQ0:=Lib.hid hQ;have HB1:=Lib.hid hB;have HBF:=Lib.hid hBF;have HW:=Lib.hid (And.intro hwl (And.intro hwc hmo));have HOL:Hid (out.length<=1554):=Lib.hid (by have h1:=hQ.all.length_eq;rw[List.length_append] at h1;have h2:=ways_len HP.out.2.1 4 tb [];have h3:=manyW_le 4 (by omega);omega);clear hBF hQ hB hmo hok hnrl hwl hlp;by_cases hp0:p=[]
     ·have hl0:lp=0:=(by rw[<- HLP.out,hp0];rfl);have HAT:Hid (atT ts tb p=tb):=Lib.hid (by rw[hp0];rfl);have hd1:decide ((0:Int)<(lp:Int))=false:=decide_eq_false (by omega);have hd2:decide (0<lp)=false:=decide_eq_false (by omega);have hd3:((lp:Int)==4)=false:=(by rw[beq_eq_false_iff_ne];omega);have HFD:=Lib.hid HT.out.1
      have htb:tb.toList.isEmpty=false:=by
       rw[eqS_e0,Bool.eq_false_iff];intro e;rw[eqS_iff] at e;obtain⟨u,hu⟩:=HT.out.1;rw[e,HP.out.2.1.none] at hu;cases hu
      have HWK:=Lib.hid (work_kids HP.out.2.1 HOK.out (by rw[HLP.out];omega) r)
      have HQN:Hid (Qi ts tb out (r++kidsP ts tb p)):=Lib.hid (by
       have h:=HQ0.out.next HP.out.2.1 (by rw[HLP.out];omega);have e:out1 out p=out:=by rw[hp0];rfl
       rwa [e] at h)
      have HL0:=Lib.hid (And.intro hl0 hp0);clear hl0 hp0;go_upto_region 13 with fail
      obtain⟨kq,hkq,hix,_,hft⟩:∃ (j:Nat) (h:j<ts.length),ixT ts tb=(j:Int)/\hasT ts tb=true/\findT ts tb=some ts[j]:=by
       rcases ixT_cases ts tb with ⟨_,_,h⟩ | h
       ·obtain⟨u,hu⟩:=HFD.out;rw[h] at hu;cases hu
       ·exact h
      have hf2:=rfind_any (x:=tb) (HP.out.1.later (HP.out.2.2.2▸HB1.out));rw[hix] at hf2;obtain⟨bt,ot,cv,dv,hpt,_,i0,i1,i2,i3,hT⟩:=RdTs.tab HP.out.1 hkq;subst hpt;have hcols:colsAt ts (atT ts tb p)=ts[kq].cols:=(by rw[HAT.out];exact colsAt_some hft);obtain⟨t,ht⟩:∃ t,ts[kq]=t:=⟨_,rfl⟩;rw[ht] at i0 i2 hT hcols;obtain⟨pc,kc,hcv,hncc,hkm⟩:=hT.c.slice;obtain⟨pd,kd',hdv,_,_⟩:=hT.d.slice;obtain⟨nc,hnc⟩:∃ k,t.cols.length=k:=⟨_,rfl⟩;obtain⟨nd,hnd⟩:∃ k,t.deps.length=k:=⟨_,rfl⟩;rw[hnc] at hcv hncc;rw[hnd] at hdv;subst hcv hdv;obtain⟨tnm,htn⟩:∃ k,t.nm=k:=⟨_,rfl⟩;obtain⟨tky,htk⟩:∃ k,t.key=k:=⟨_,rfl⟩;rw[htn] at i0;rw[htk] at i2;unfold maxLen at hkm;have hWq:Below W.heap.size W _:=HP.out.2.2.2▸HB1.out;have j0:=bel_cell hWq i0;have j1:=bel_cell hWq i1;have j2:=bel_cell hWq i2;have j3:=bel_cell hWq i3;have hkN:(kq:Int)<(N:Int):=(by have:=HP.out.2.2.1;omega);have HTT:=Lib.hid (And.intro hT (And.intro hcols hnc));clear hix hft i0 i1 i2 i3 hT hcols ht hnc hnd htn htk hkq hWq;go_upto_region 14 with (go_at_call 46;(with_reducible refine hf2.mono ?_);rintro e wx ⟨rfl,hw⟩;have hw:=hw.symm;subst hw);obtain⟨wq,rfl⟩:∃ wq,wq=w1:=⟨_,rfl⟩;have hx5:=heap_alloc_new wq (boxT tnm (.slice pc nc kc) tky (.slice pd nd kd'));have hb6:=below_alloc wq (boxT tnm (.slice pc nc kc) tky (.slice pd nd kd'));obtain⟨TB,hTB⟩:∃ x,wq.heap.size=x:=⟨_,rfl⟩;obtain⟨w5,hw5⟩:∃ x,wq.alloc (boxT tnm (.slice pc nc kc) tky (.slice pd nd kd'))=x:=⟨_,rfl⟩;have K5:=HBF.out.on hb6;have B5:=HB1.out.trans (hb6.mono HBF.out.sz);rw[hTB,hw5] at hx5;rw[hw5] at K5 B5;rw[hTB,hw5];have H5:=Lib.hid (And.intro K5 (And.intro hx5 B5));clear hx5 hb6 hTB hw5 K5 B5 j0 j1 j2 j3 hf2;have hKL:(kidsP ts tb p).length=nc:=(by unfold kidsP;rw[List.length_map,HTT.out.2.1];exact HTT.out.2.2);have HKL:=Lib.hid hKL;have hWK:=HWK.out;have hnc6:nc<=6:=(by have:=(HP.out.2.1.cols (atT ts tb p)).2.1;rw[HTT.out.2.1,HTT.out.2.2] at this;exact this);clear hKL;go_wp2_with fail;go_loopg [6,12] (nc+1) (fun gh tv iv w=>∃ (i g' off' m' c':Nat) (tvs':List Value),iv=.int .i64 (i:Int)/\i<=nc/\nc+1<=i+gh/\tv=.slice (some ⟨g',off',none⟩) (m'+1) (c'+1)/\m'=nr+i/\BF S (.slice po mo co) ovs out g' off' (m'+1) (c'+1) (.slice ap lp cp::tvs') (p::(r++(kidsP ts tb p).take i)) w/\w.heap[TB]?=some (boxT tnm (.slice pc nc kc) tky (.slice pd nd kd'))/\Below S W w)
      case atStart=>exact⟨0,g,off,nr,cq,tr,rfl,Nat.zero_le _,by omega,rfl,rfl,by rw[List.take_zero,List.append_nil];exact H5.out.1,H5.out.2.1,H5.out.2.2⟩
      case round =>
       obtain⟨i,g',off',m',c',tvs',rfl,hi,hig,rfl,hm',hBF,hTBx,hB6⟩:=hrel;obtain⟨w6,rfl⟩:∃ w6,w6=wr:=⟨_,rfl⟩;have z1:=nd_cell hTBx 1;have zl:=lt_of_heap hTBx;have H6:=Lib.hid (And.intro hBF (And.intro hTBx (And.intro hB6 hm')));clear hTBx hm';by_cases hlt:i<nc
       ·have hil:i<t.cols.length:=(by rw[HTT.out.2.2];exact hlt);obtain⟨bc,oc,rfl,hbc,d0,-,-,-⟩:=RdC.col (RdC.later HTT.out.1.c (HP.out.2.2.2▸hB6)) hil;obtain⟨x,hx⟩:∃ x,t.cols[i].nm=x:=⟨_,rfl⟩;rw[hx] at d0
        have hkid:(kidsP ts tb p).take (i+1)=(kidsP ts tb p).take i++[p++[x]]:=by
         have hik:i<(kidsP ts tb p).length:=(by rw[HKL.out];exact hlt);have h1:(kidsP ts tb p)[i]?=some (p++[x]):=(by unfold kidsP;rw[HTT.out.2.1,List.getElem?_map,List.getElem?_eq_getElem hil];simp[hx]);obtain⟨_,h2⟩:=List.getElem?_eq_some_iff.1 h1;rw[List.take_succ_eq_append_getElem hik,h2]
        obtain⟨a',c'',e',hc0',hw0',hgl'⟩:=hBF.head;rw[HLP.out] at e' hc0' hw0';obtain⟨rfl,-,rfl⟩:=Value.slice.inj e';obtain⟨q,hq⟩:∃ q,p++[x]=q:=⟨_,rfl⟩;obtain⟨lq,hlq⟩:∃ k,q.length=k:=⟨_,rfl⟩;have HJ:Hid (∀ w,Below w6.heap.size w6 w->Calls Tryz.prog 66 #[.slice ap lp cp,.string x] w fun e w'=>∃ a c,e=.returned (.slice a lq c)/\Wd w' (.slice a lq c) q/\Below w.heap.size w w'):=Lib.hid (fun w hb=>join_is (hw0'.later hb) (by have:=HOK.out.2;omega) hq hlq);have HC6:Hid (∀ w,Below w6.heap.size w6 w->w.cell? ⟨g',off',none⟩=some (.slice ap lp cp)/\w.cell? ⟨TB,1,none⟩=some (.slice (some ⟨bc,oc,none⟩) nc kc)/\w.cell? ⟨bc,oc+i*4,none⟩=some (.string x)):=Lib.hid (fun w hb=>⟨bel_cell hb hc0',bel_cell hb z1,bel_cell hb d0⟩);have HQ:=Lib.hid (And.intro hkid hq);have hji:(i:Int)<(nc:Int):=(by omega);clear hB6 d0 hx hkid e' hc0' hw0' hq hlq hbc hil hBF;go_upto_region 17 with fail;refine Par.wp_region_par2 12 (fun w=>Below w6.heap.size w6 w) (Par.VL [(.eq (.slice (some ⟨g',off',none⟩) (m'+1) (c'+1))),(.eq (.slice (some ⟨g',off',none⟩) (m'+1) (c'+1))),(.eq (Value.pointer (some ⟨g',off',none⟩))),(.eq (.slice ap lp cp)),(.eq (Value.pointer (some ⟨TB,1,none⟩))),(.eq (.slice (some ⟨bc,oc,none⟩) nc kc)),(.eq (.int .i64 i)),(.eq (Value.pointer (some ⟨bc,oc+i*4,none⟩))),(.eq (Value.pointer (some ⟨bc,oc+i*4,none⟩))),(.eq (.string x)),((wayV lq q)),((boxV lq q))]) ?A1 ?hm1 ?hB1 (fun w w' h hb=>below_on h hb) (Par.VL.mono _) ?hA1 ((below_drew w6)) ?hop1 ?hT1
        case hm1=>kernel_rfl
        case hB1=>kernel_rfl
        case hA1 =>
         intro vs;simp only[Par.putA,Par.dstAt,Act.put,List.getElem?_toArray,List.getElem?_cons_zero,List.getElem?_cons_succ,Option.bind_some,List.setIfInBounds_toArray,List.set_cons_zero,List.set_cons_succ];rfl
        case hop1 =>
         simp only[List.take_succ_cons,List.take_zero,Par.GiveAllV,and_true];and_intros<;>intro vs w hK hd
         ·clear hd;simp only[Par.GivesV];go_simp;all_goals exact⟨rfl,Below.refl _ _⟩
         ·clear hd;simp only[Par.GivesV];go_simp;all_goals exact⟨rfl,Below.refl _ _⟩
         ·have d1:=hd 1 (by decide) (by kernel_rfl);replace d1:vs 1=(.slice (some ⟨g',off',none⟩) (m'+1) (c'+1)):=d1;clear hd;simp only[Par.GivesV,d1];go_simp;all_goals exact⟨rfl,Below.refl _ _⟩
         ·have d2:=hd 2 (by decide) (by kernel_rfl);replace d2:vs 2=(Value.pointer (some ⟨g',off',none⟩)):=d2;have k:=(HC6.out w hK).1;clear hd;simp only[Par.GivesV,d2];go_simp;all_goals exact⟨rfl,Below.refl _ _⟩
         ·clear hd;simp only[Par.GivesV];go_simp;all_goals exact⟨rfl,Below.refl _ _⟩
         ·have d4:=hd 4 (by decide) (by kernel_rfl);replace d4:vs 4=(Value.pointer (some ⟨TB,1,none⟩)):=d4;have k:=(HC6.out w hK).2.1;clear hd;simp only[Par.GivesV,d4];go_simp;all_goals exact⟨rfl,Below.refl _ _⟩
         ·clear hd;simp only[Par.GivesV];go_simp;all_goals exact⟨rfl,Below.refl _ _⟩
         ·have d5:=hd 5 (by decide) (by kernel_rfl);replace d5:vs 5=(.slice (some ⟨bc,oc,none⟩) nc kc):=d5;have d6:=hd 6 (by decide) (by kernel_rfl);replace d6:vs 6=(.int .i64 i):=d6;clear hd;simp only[Par.GivesV,d5,d6];go_simp;all_goals exact⟨rfl,Below.refl _ _⟩
         ·have d7:=hd 7 (by decide) (by kernel_rfl);replace d7:vs 7=(Value.pointer (some ⟨bc,oc+i*4,none⟩)):=d7;clear hd;simp only[Par.GivesV,d7];go_simp;all_goals exact⟨rfl,Below.refl _ _⟩
         ·have d8:=hd 8 (by decide) (by kernel_rfl);replace d8:vs 8=(Value.pointer (some ⟨bc,oc+i*4,none⟩)):=d8;have k:=(HC6.out w hK).2.2;clear hd;simp only[Par.GivesV,d8];go_simp;all_goals exact⟨rfl,Below.refl _ _⟩
         ·have d3:=hd 3 (by decide) (by kernel_rfl);replace d3:vs 3=(.slice ap lp cp):=d3;have d9:=hd 9 (by decide) (by kernel_rfl);replace d9:vs 9=(.string x):=d9;clear hd;simp only[Par.GivesV,d3,d9];go_simp;exact (HJ.out w hK).mono (fun e w'' ⟨a,c,h1,h2,h3⟩=>⟨_,h1,⟨⟨a,c,rfl,h2⟩,h3⟩⟩)
         ·have d10:=hd 10 (by decide) (by kernel_rfl);obtain⟨a,c,d10,k10⟩:=d10;rw[d10] at k10;clear hd;simp only[Par.GivesV];go_simp;exact⟨⟨_,a,c,rfl,heap_alloc_new w _,k10.later (below_alloc w _)⟩,below_alloc w _⟩
        case hT1 =>
         intro vs w' hK hV;simp only[List.drop_succ_cons,List.drop_zero];have d0:=hV 0 (by decide);replace d0:vs 0=(.slice (some ⟨g',off',none⟩) (m'+1) (c'+1)):=d0;have d1:=hV 1 (by decide);replace d1:vs 1=(.slice (some ⟨g',off',none⟩) (m'+1) (c'+1)):=d1;have d2:=hV 2 (by decide);replace d2:vs 2=(Value.pointer (some ⟨g',off',none⟩)):=d2;have d3:=hV 3 (by decide);replace d3:vs 3=(.slice ap lp cp):=d3;have d4:=hV 4 (by decide);replace d4:vs 4=(Value.pointer (some ⟨TB,1,none⟩)):=d4;have d5:=hV 5 (by decide);replace d5:vs 5=(.slice (some ⟨bc,oc,none⟩) nc kc):=d5;have d6:=hV 6 (by decide);replace d6:vs 6=(.int .i64 i):=d6;have d7:=hV 7 (by decide);replace d7:vs 7=(Value.pointer (some ⟨bc,oc+i*4,none⟩)):=d7;have d8:=hV 8 (by decide);replace d8:vs 8=(Value.pointer (some ⟨bc,oc+i*4,none⟩)):=d8;have d9:=hV 9 (by decide);replace d9:vs 9=(.string x):=d9;have d10:=hV 10 (by decide);have d11:=hV 11 (by decide);clear hV;simp only[d0,d1,d2,d3,d4,d5,d6,d7,d8,d9];clear d0 d1 d2 d3 d4 d5 d6 d7 d8 d9;obtain⟨_,_,d10,_⟩:=d10;obtain⟨gb,ab,cb,d11,kb,kw⟩:=d11;rw[d10,d11];clear d10 d11;obtain⟨w7,rfl⟩:∃ w7,w7=w':=⟨_,rfl⟩;obtain⟨g2,off2,cap2,w8,hrun,hBF8,hb8,hk8⟩:=(H6.out.1.on hK).tput (ty:=53) (c1:=1) (m:=m'+1+1) kb kw (by have h1:=H6.out.2.2.2;have h2:=hWK;have h3:=HNR.out;omega) rfl;have hB8:Below S W w8:=(H6.out.2.2.1.trans (hK.mono H6.out.1.sz)).trans hb8;have hT8:=hk8.cells (heap_on hK H6.out.2.1) (by decide);obtain⟨c2,hc2⟩:∃ c2,cap2=c2+1:=⟨cap2-1,by have:=hBF8.t.2.2.1;omega⟩;subst hc2;have H8:=Lib.hid (And.intro hBF8 (And.intro hT8 hB8));clear hBF8 hb8 hk8 hB8 hT8 kb kw hK z1;go_wp2_with (at_builtin;refine wpList_append_run rfl (.tmp 70) (.tmp 81) 53 rfl rfl rfl hrun ?_);go_roundg (nc-i)
         case measure=>omega
         case rel=>exact⟨i+1,g2,off2,m'+1,c2,tvs'++[.slice ab lq cb],by go_num,by omega,by omega,rfl,by have:=H6.out.2.2.2;omega,by
          rw[HQ.out.1,HQ.out.2,<- List.append_assoc];exact H8.out.1,H8.out.2.1,H8.out.2.2⟩
       ·obtain rfl:i=nc:=(by omega);have htk:(kidsP ts tb p).take i=kidsP ts tb p:=List.take_of_length_le (by rw[HKL.out];exact Nat.le_refl _);rw[htk] at H6;clear htk hBF hB6;have HNX:=HQN.out;have H6b:=Lib.hid H6.out.1;by_cases hcz:c'=0
        ·have hmz:m'=0:=(by have:=H6b.out.t.2.2.1;omega);have HZ:=Lib.hid (And.intro hcz hmz);subst hcz hmz;go_wp2_with fail;go_roundg (work ts tb (r++kidsP ts tb p)+1)
         case measure=>omega
         case rel=>exact⟨g',off',0,0,mo,_,_,ovs,tvs',out,(r++kidsP ts tb p),rfl,rfl,HW.out.2.2,H6b.out.tail0,HNX,Nat.le_refl _,H6.out.2.2.1,by omega⟩
        ·have hcz2:¬ (c':Int)=0:=(by omega);go_wp2_with fail;go_roundg (work ts tb (r++kidsP ts tb p)+1)
         case measure=>omega
         case rel=>exact⟨g',off'+1,m',c',mo,_,_,ovs,tvs',out,(r++kidsP ts tb p),rfl,rfl,HW.out.2.2,H6b.out.tail,HNX,Nat.le_refl _,H6.out.2.2.1,by omega⟩
     ·have hlp1:1<=lp:=by
       rw[<- HLP.out];rcases Nat.eq_zero_or_pos p.length with h|h
       ·exact absurd (List.eq_nil_of_length_eq_zero h) hp0
       ·exact h
      have hie:¬ p.isEmpty=true:=(by rw[List.isEmpty_iff];exact hp0);obtain⟨rr,hrr⟩:∃ r,pcolL ts tb p=r:=⟨_,rfl⟩;obtain⟨⟨nm,kd,mu,tg⟩,u2,er⟩:=rr
      have hAT:atT ts tb p=tg:=by
       unfold atT;rw[if_neg hie];unfold pcolL at hrr;rw[if_neg (by rw[HLP.out];omega)] at hrr;rw[hrr]
      have hout1:out1 out p=out++[p]:=(by unfold out1;rw[if_neg hie]);have HAT:=Lib.hid hAT;have HO1:=Lib.hid hout1;have hd1:decide ((0:Int)<(lp:Int))=true:=decide_eq_true (by omega);have hd2:decide (0<lp)=true:=decide_eq_true (by omega);have hcall:=refCol_of (HP.out.1.later (HP.out.2.2.2▸HB1.out)) hwp hrr;clear hrr hAT hout1 hie hp0;go_upto_region 10 with (go_at_call 64;(with_reducible refine hcall.mono ?_);rintro e w2 ⟨rfl,hb2⟩);have hx5:=heap_alloc_new w2 (.cells #[.string nm,.int .i64 kd,.bool mu,.string tg] 116);have hbb:=below_on hb2 (below_alloc w2 (.cells #[.string nm,.int .i64 kd,.bool mu,.string tg] 116));obtain⟨B3,hB3⟩:∃ x,w2.heap.size=x:=⟨_,rfl⟩;obtain⟨w3,hw3⟩:∃ x,w2.alloc (.cells #[.string nm,.int .i64 kd,.bool mu,.string tg] 116)=x:=⟨_,rfl⟩;rw[hB3,hw3] at hx5;rw[hw3] at hbb;rw[hB3,hw3];have K3:=Lib.hid (HBF.out.on hbb);have HB3:=Lib.hid (HB1.out.trans (hbb.mono HBF.out.sz));have hc3:=bel_cell hbb hc0;have hwp3:=hwp.later hbb;have z3:=nd_cell hx5 3;have zl:=lt_of_heap hx5;have hgl3:=Nat.lt_of_lt_of_le hgl hbb.size;clear hcall hb2 hx5 hbb hB3 hw3;obtain⟨g2,c2,w4,hrun,hBF4,hb4,hk4⟩:=K3.out.oput (ty:=53) (m:=mo+1) hwp3 (by have:=HOL.out;omega) (by rw[HW.out.2.2]);have K4:=Lib.hid (And.intro hBF4 (HB3.out.trans hb4));obtain⟨a4,c4,e4,hc4,hw4,hgl4⟩:=hBF4.head;rw[HLP.out] at e4 hc4 hw4;obtain⟨rfl,-,rfl⟩:=Value.slice.inj e4;clear hBF4 hb4 hk4 e4;go_upto_region 12 with (at_builtin;refine wpList_append_run rfl (.tmp 42) (.tmp 46) 53 rfl rfl rfl hrun ?_);clear hc3 hwp3 z3 zl hgl3 hrun hc0 hwp hgl;cases he:eqS tg e0
      ·have htg:tg.toList.isEmpty=false:=(by rw[eqS_e0];exact he);by_cases hl4:lp=4
       ·have hd3:((lp:Int)==4)=true:=(by rw[beq_iff_eq];omega);have HQS:Hid (Qi ts tb (out++[p]) r):=Lib.hid (by have h:=HQ0.out.skip HP.out.2.1 (.inr (by rw[HLP.out];omega));rwa [HO1.out] at h);have HQX:=HQS.out;have K4b:=Lib.hid K4.out.1;have hmo2:mo+1=(out++[p]).length:=(by rw[List.length_append,<- HW.out.2.2];rfl);have HMO:=Lib.hid hmo2;clear hmo2 he;by_cases hcz:cq=0
        ·have hmz:nr=0:=(by have:=K4b.out.t.2.2.1;omega);have HZ:=Lib.hid (And.intro hcz hmz);subst hcz hmz;go_wp2_with fail;go_roundg (work ts tb r+1)
         case measure=>omega
         case rel=>exact⟨g,off,0,0,(mo+1),_,_,(ovs++[.slice ap lp cp]),tr,(out++[p]),r,rfl,rfl,HMO.out,K4b.out.tail0,HQX,Nat.le_refl _,K4.out.2,by omega⟩
        ·have hcz2:¬ (cq:Int)=0:=(by omega);go_wp2_with fail;go_roundg (work ts tb r+1)
         case measure=>omega
         case rel=>exact⟨g,off+1,nr,cq,(mo+1),_,_,(ovs++[.slice ap lp cp]),tr,(out++[p]),r,rfl,rfl,HMO.out,K4b.out.tail,HQX,Nat.le_refl _,K4.out.2,by omega⟩
       ·have hd3:((lp:Int)==4)=false:=by rw[beq_eq_false_iff_ne];omega
        have HFD:Hid (∃ u,findT ts tg=some u):=Lib.hid (by
         have h:=Qi.found HP.out.2.1 HT.out.1 HOK.out (by rw[HAT.out];exact he)
         rwa [HAT.out] at h)
        have HWK:=Lib.hid (work_kids HP.out.2.1 HOK.out (by rw[HLP.out];omega) r)
        have HQN:Hid (Qi ts tb (out++[p]) (r++kidsP ts tb p)):=Lib.hid (by
         have h:=HQ0.out.next HP.out.2.1 (by rw[HLP.out];omega)
         rwa [HO1.out] at h)
        have HMO:Hid (mo+1=(out++[p]).length):=Lib.hid (by rw[List.length_append,<- HW.out.2.2];rfl);have K4b:=Lib.hid K4.out.1;have K4c:=Lib.hid K4.out.2;clear he;go_upto_region 13 with fail;clear hc4 hw4 hgl4
        obtain⟨kq,hkq,hix,_,hft⟩:∃ (j:Nat) (h:j<ts.length),ixT ts tg=(j:Int)/\hasT ts tg=true/\findT ts tg=some ts[j]:=by
         rcases ixT_cases ts tg with ⟨_,_,h⟩ | h
         ·obtain⟨u,hu⟩:=HFD.out;rw[h] at hu;cases hu
         ·exact h
        have hf2:=rfind_any (x:=tg) (HP.out.1.later (HP.out.2.2.2▸K4c.out));rw[hix] at hf2;obtain⟨bt,ot,cv,dv,hpt,_,i0,i1,i2,i3,hT⟩:=RdTs.tab HP.out.1 hkq;subst hpt;have hcols:colsAt ts (atT ts tb p)=ts[kq].cols:=(by rw[HAT.out];exact colsAt_some hft);obtain⟨t,ht⟩:∃ t,ts[kq]=t:=⟨_,rfl⟩;rw[ht] at i0 i2 hT hcols;obtain⟨pc,kc,hcv,hncc,hkm⟩:=hT.c.slice;obtain⟨pd,kd',hdv,_,_⟩:=hT.d.slice;obtain⟨nc,hnc⟩:∃ k,t.cols.length=k:=⟨_,rfl⟩;obtain⟨nd,hnd⟩:∃ k,t.deps.length=k:=⟨_,rfl⟩;rw[hnc] at hcv hncc;rw[hnd] at hdv;subst hcv hdv;obtain⟨tnm,htn⟩:∃ k,t.nm=k:=⟨_,rfl⟩;obtain⟨tky,htk⟩:∃ k,t.key=k:=⟨_,rfl⟩;rw[htn] at i0;rw[htk] at i2;unfold maxLen at hkm;have hWq:Below W.heap.size W _:=HP.out.2.2.2▸K4c.out;have j0:=bel_cell hWq i0;have j1:=bel_cell hWq i1;have j2:=bel_cell hWq i2;have j3:=bel_cell hWq i3;have hkN:(kq:Int)<(N:Int):=(by have:=HP.out.2.2.1;omega);have HTT:=Lib.hid (And.intro hT (And.intro hcols hnc));clear hix hft i0 i1 i2 i3 hT hcols ht hnc hnd htn htk hkq hWq;go_upto_region 14 with (go_at_call 46;(with_reducible refine hf2.mono ?_);rintro e wx ⟨rfl,hw⟩;have hw:=hw.symm;subst hw);obtain⟨wq,rfl⟩:∃ wq,wq=w4:=⟨_,rfl⟩;have hx5:=heap_alloc_new wq (boxT tnm (.slice pc nc kc) tky (.slice pd nd kd'));have hb6:=below_alloc wq (boxT tnm (.slice pc nc kc) tky (.slice pd nd kd'));obtain⟨TB,hTB⟩:∃ x,wq.heap.size=x:=⟨_,rfl⟩;obtain⟨w5,hw5⟩:∃ x,wq.alloc (boxT tnm (.slice pc nc kc) tky (.slice pd nd kd'))=x:=⟨_,rfl⟩;have K5:=K4b.out.on hb6;have B5:=K4c.out.trans (hb6.mono K4b.out.sz);rw[hTB,hw5] at hx5;rw[hw5] at K5 B5;rw[hTB,hw5];have H5:=Lib.hid (And.intro K5 (And.intro hx5 B5));clear hx5 hb6 hTB hw5 K5 B5 j0 j1 j2 j3 hf2;have hKL:(kidsP ts tb p).length=nc:=(by unfold kidsP;rw[List.length_map,HTT.out.2.1];exact HTT.out.2.2);have HKL:=Lib.hid hKL;have hWK:=HWK.out;have hnc6:nc<=6:=(by have:=(HP.out.2.1.cols (atT ts tb p)).2.1;rw[HTT.out.2.1,HTT.out.2.2] at this;exact this);clear hKL;go_wp2_with fail;go_loopg [6,12] (nc+1) (fun gh tv iv w=>∃ (i g' off' m' c':Nat) (tvs':List Value),iv=.int .i64 (i:Int)/\i<=nc/\nc+1<=i+gh/\tv=.slice (some ⟨g',off',none⟩) (m'+1) (c'+1)/\m'=nr+i/\BF S (.slice (some ⟨g2,0,none⟩) (mo+1) c2) (ovs++[.slice ap lp cp]) (out++[p]) g' off' (m'+1) (c'+1) (.slice ap lp cp::tvs') (p::(r++(kidsP ts tb p).take i)) w/\w.heap[TB]?=some (boxT tnm (.slice pc nc kc) tky (.slice pd nd kd'))/\Below S W w)
        case atStart=>exact⟨0,g,off,nr,cq,tr,rfl,Nat.zero_le _,by omega,rfl,rfl,by rw[List.take_zero,List.append_nil];exact H5.out.1,H5.out.2.1,H5.out.2.2⟩
        case round =>
         obtain⟨i,g',off',m',c',tvs',rfl,hi,hig,rfl,hm',hBF,hTBx,hB6⟩:=hrel;obtain⟨w6,rfl⟩:∃ w6,w6=wr:=⟨_,rfl⟩;have z1:=nd_cell hTBx 1;have zl:=lt_of_heap hTBx;have H6:=Lib.hid (And.intro hBF (And.intro hTBx (And.intro hB6 hm')));clear hTBx hm';by_cases hlt:i<nc
         ·have hil:i<t.cols.length:=(by rw[HTT.out.2.2];exact hlt);obtain⟨bc,oc,rfl,hbc,d0,-,-,-⟩:=RdC.col (RdC.later HTT.out.1.c (HP.out.2.2.2▸hB6)) hil;obtain⟨x,hx⟩:∃ x,t.cols[i].nm=x:=⟨_,rfl⟩;rw[hx] at d0
          have hkid:(kidsP ts tb p).take (i+1)=(kidsP ts tb p).take i++[p++[x]]:=by
           have hik:i<(kidsP ts tb p).length:=(by rw[HKL.out];exact hlt);have h1:(kidsP ts tb p)[i]?=some (p++[x]):=(by unfold kidsP;rw[HTT.out.2.1,List.getElem?_map,List.getElem?_eq_getElem hil];simp[hx]);obtain⟨_,h2⟩:=List.getElem?_eq_some_iff.1 h1;rw[List.take_succ_eq_append_getElem hik,h2]
          obtain⟨a',c'',e',hc0',hw0',hgl'⟩:=hBF.head;rw[HLP.out] at e' hc0' hw0';obtain⟨rfl,-,rfl⟩:=Value.slice.inj e';obtain⟨q,hq⟩:∃ q,p++[x]=q:=⟨_,rfl⟩;obtain⟨lq,hlq⟩:∃ k,q.length=k:=⟨_,rfl⟩;have HJ:Hid (∀ w,Below w6.heap.size w6 w->Calls Tryz.prog 66 #[.slice ap lp cp,.string x] w fun e w'=>∃ a c,e=.returned (.slice a lq c)/\Wd w' (.slice a lq c) q/\Below w.heap.size w w'):=Lib.hid (fun w hb=>join_is (hw0'.later hb) (by have:=HOK.out.2;omega) hq hlq);have HC6:Hid (∀ w,Below w6.heap.size w6 w->w.cell? ⟨g',off',none⟩=some (.slice ap lp cp)/\w.cell? ⟨TB,1,none⟩=some (.slice (some ⟨bc,oc,none⟩) nc kc)/\w.cell? ⟨bc,oc+i*4,none⟩=some (.string x)):=Lib.hid (fun w hb=>⟨bel_cell hb hc0',bel_cell hb z1,bel_cell hb d0⟩);have HQ:=Lib.hid (And.intro hkid hq);have hji:(i:Int)<(nc:Int):=(by omega);clear hB6 d0 hx hkid e' hc0' hw0' hq hlq hbc hil hBF;go_upto_region 17 with fail;refine Par.wp_region_par2 12 (fun w=>Below w6.heap.size w6 w) (Par.VL [(.eq (.slice (some ⟨g',off',none⟩) (m'+1) (c'+1))),(.eq (.slice (some ⟨g',off',none⟩) (m'+1) (c'+1))),(.eq (Value.pointer (some ⟨g',off',none⟩))),(.eq (.slice ap lp cp)),(.eq (Value.pointer (some ⟨TB,1,none⟩))),(.eq (.slice (some ⟨bc,oc,none⟩) nc kc)),(.eq (.int .i64 i)),(.eq (Value.pointer (some ⟨bc,oc+i*4,none⟩))),(.eq (Value.pointer (some ⟨bc,oc+i*4,none⟩))),(.eq (.string x)),((wayV lq q)),((boxV lq q))]) ?A2 ?hm2 ?hB2 (fun w w' h hb=>below_on h hb) (Par.VL.mono _) ?hA2 ((below_drew w6)) ?hop2 ?hT2
          case hm2=>kernel_rfl
          case hB2=>kernel_rfl
          case hA2 =>
           intro vs;simp only[Par.putA,Par.dstAt,Act.put,List.getElem?_toArray,List.getElem?_cons_zero,List.getElem?_cons_succ,Option.bind_some,List.setIfInBounds_toArray,List.set_cons_zero,List.set_cons_succ];rfl
          case hop2 =>
           simp only[List.take_succ_cons,List.take_zero,Par.GiveAllV,and_true];and_intros<;>intro vs w hK hd
           ·clear hd;simp only[Par.GivesV];go_simp;all_goals exact⟨rfl,Below.refl _ _⟩
           ·clear hd;simp only[Par.GivesV];go_simp;all_goals exact⟨rfl,Below.refl _ _⟩
           ·have d1:=hd 1 (by decide) (by kernel_rfl);replace d1:vs 1=(.slice (some ⟨g',off',none⟩) (m'+1) (c'+1)):=d1;clear hd;simp only[Par.GivesV,d1];go_simp;all_goals exact⟨rfl,Below.refl _ _⟩
           ·have d2:=hd 2 (by decide) (by kernel_rfl);replace d2:vs 2=(Value.pointer (some ⟨g',off',none⟩)):=d2;have k:=(HC6.out w hK).1;clear hd;simp only[Par.GivesV,d2];go_simp;all_goals exact⟨rfl,Below.refl _ _⟩
           ·clear hd;simp only[Par.GivesV];go_simp;all_goals exact⟨rfl,Below.refl _ _⟩
           ·have d4:=hd 4 (by decide) (by kernel_rfl);replace d4:vs 4=(Value.pointer (some ⟨TB,1,none⟩)):=d4;have k:=(HC6.out w hK).2.1;clear hd;simp only[Par.GivesV,d4];go_simp;all_goals exact⟨rfl,Below.refl _ _⟩
           ·clear hd;simp only[Par.GivesV];go_simp;all_goals exact⟨rfl,Below.refl _ _⟩
           ·have d5:=hd 5 (by decide) (by kernel_rfl);replace d5:vs 5=(.slice (some ⟨bc,oc,none⟩) nc kc):=d5;have d6:=hd 6 (by decide) (by kernel_rfl);replace d6:vs 6=(.int .i64 i):=d6;clear hd;simp only[Par.GivesV,d5,d6];go_simp;all_goals exact⟨rfl,Below.refl _ _⟩
           ·have d7:=hd 7 (by decide) (by kernel_rfl);replace d7:vs 7=(Value.pointer (some ⟨bc,oc+i*4,none⟩)):=d7;clear hd;simp only[Par.GivesV,d7];go_simp;all_goals exact⟨rfl,Below.refl _ _⟩
           ·have d8:=hd 8 (by decide) (by kernel_rfl);replace d8:vs 8=(Value.pointer (some ⟨bc,oc+i*4,none⟩)):=d8;have k:=(HC6.out w hK).2.2;clear hd;simp only[Par.GivesV,d8];go_simp;all_goals exact⟨rfl,Below.refl _ _⟩
           ·have d3:=hd 3 (by decide) (by kernel_rfl);replace d3:vs 3=(.slice ap lp cp):=d3;have d9:=hd 9 (by decide) (by kernel_rfl);replace d9:vs 9=(.string x):=d9;clear hd;simp only[Par.GivesV,d3,d9];go_simp;exact (HJ.out w hK).mono (fun e w'' ⟨a,c,h1,h2,h3⟩=>⟨_,h1,⟨⟨a,c,rfl,h2⟩,h3⟩⟩)
           ·have d10:=hd 10 (by decide) (by kernel_rfl);obtain⟨a,c,d10,k10⟩:=d10;rw[d10] at k10;clear hd;simp only[Par.GivesV];go_simp;exact⟨⟨_,a,c,rfl,heap_alloc_new w _,k10.later (below_alloc w _)⟩,below_alloc w _⟩
          case hT2 =>
           intro vs w' hK hV;simp only[List.drop_succ_cons,List.drop_zero];have d0:=hV 0 (by decide);replace d0:vs 0=(.slice (some ⟨g',off',none⟩) (m'+1) (c'+1)):=d0;have d1:=hV 1 (by decide);replace d1:vs 1=(.slice (some ⟨g',off',none⟩) (m'+1) (c'+1)):=d1;have d2:=hV 2 (by decide);replace d2:vs 2=(Value.pointer (some ⟨g',off',none⟩)):=d2;have d3:=hV 3 (by decide);replace d3:vs 3=(.slice ap lp cp):=d3;have d4:=hV 4 (by decide);replace d4:vs 4=(Value.pointer (some ⟨TB,1,none⟩)):=d4;have d5:=hV 5 (by decide);replace d5:vs 5=(.slice (some ⟨bc,oc,none⟩) nc kc):=d5;have d6:=hV 6 (by decide);replace d6:vs 6=(.int .i64 i):=d6;have d7:=hV 7 (by decide);replace d7:vs 7=(Value.pointer (some ⟨bc,oc+i*4,none⟩)):=d7;have d8:=hV 8 (by decide);replace d8:vs 8=(Value.pointer (some ⟨bc,oc+i*4,none⟩)):=d8;have d9:=hV 9 (by decide);replace d9:vs 9=(.string x):=d9;have d10:=hV 10 (by decide);have d11:=hV 11 (by decide);clear hV;simp only[d0,d1,d2,d3,d4,d5,d6,d7,d8,d9];clear d0 d1 d2 d3 d4 d5 d6 d7 d8 d9;obtain⟨_,_,d10,_⟩:=d10;obtain⟨gb,ab,cb,d11,kb,kw⟩:=d11;rw[d10,d11];clear d10 d11;obtain⟨w7,rfl⟩:∃ w7,w7=w':=⟨_,rfl⟩;obtain⟨g2,off2,cap2,w8,hrun,hBF8,hb8,hk8⟩:=(H6.out.1.on hK).tput (ty:=53) (c1:=1) (m:=m'+1+1) kb kw (by have h1:=H6.out.2.2.2;have h2:=hWK;have h3:=HNR.out;omega) rfl;have hB8:Below S W w8:=(H6.out.2.2.1.trans (hK.mono H6.out.1.sz)).trans hb8;have hT8:=hk8.cells (heap_on hK H6.out.2.1) (by decide);obtain⟨c2,hc2⟩:∃ c2,cap2=c2+1:=⟨cap2-1,by have:=hBF8.t.2.2.1;omega⟩;subst hc2;have H8:=Lib.hid (And.intro hBF8 (And.intro hT8 hB8));clear hBF8 hb8 hk8 hB8 hT8 kb kw hK z1;go_wp2_with (at_builtin;refine wpList_append_run rfl (.tmp 70) (.tmp 81) 53 rfl rfl rfl hrun ?_);go_roundg (nc-i)
           case measure=>omega
           case rel=>exact⟨i+1,g2,off2,m'+1,c2,tvs'++[.slice ab lq cb],by go_num,by omega,by omega,rfl,by have:=H6.out.2.2.2;omega,by
            rw[HQ.out.1,HQ.out.2,<- List.append_assoc];exact H8.out.1,H8.out.2.1,H8.out.2.2⟩
         ·obtain rfl:i=nc:=(by omega);have htk:(kidsP ts tb p).take i=kidsP ts tb p:=List.take_of_length_le (by rw[HKL.out];exact Nat.le_refl _);rw[htk] at H6;clear htk hBF hB6;have HNX:=HQN.out;have H6b:=Lib.hid H6.out.1;by_cases hcz:c'=0
          ·have hmz:m'=0:=(by have:=H6b.out.t.2.2.1;omega);have HZ:=Lib.hid (And.intro hcz hmz);subst hcz hmz;go_wp2_with fail;go_roundg (work ts tb (r++kidsP ts tb p)+1)
           case measure=>omega
           case rel=>exact⟨g',off',0,0,(mo+1),_,_,(ovs++[.slice ap lp cp]),tvs',(out++[p]),(r++kidsP ts tb p),rfl,rfl,HMO.out,H6b.out.tail0,HNX,Nat.le_refl _,H6.out.2.2.1,by omega⟩
          ·have hcz2:¬ (c':Int)=0:=(by omega);go_wp2_with fail;go_roundg (work ts tb (r++kidsP ts tb p)+1)
           case measure=>omega
           case rel=>exact⟨g',off'+1,m',c',(mo+1),_,_,(ovs++[.slice ap lp cp]),tvs',(out++[p]),(r++kidsP ts tb p),rfl,rfl,HMO.out,H6b.out.tail,HNX,Nat.le_refl _,H6.out.2.2.1,by omega⟩
      ·have htg:tg.toList.isEmpty=true:=(by rw[eqS_e0];exact he);have HQS:Hid (Qi ts tb (out++[p]) r):=Lib.hid (by have h:=HQ0.out.skip HP.out.2.1 (.inl (by rw[HAT.out];exact eqS_iff.1 he));rwa [HO1.out] at h);have HQX:=HQS.out;have K4b:=Lib.hid K4.out.1;have HMO:Hid (mo+1=(out++[p]).length):=Lib.hid (by rw[List.length_append,<- HW.out.2.2];rfl);clear he;by_cases hcz:cq=0
       ·have hmz:nr=0:=(by have:=K4b.out.t.2.2.1;omega);have HZ:=Lib.hid (And.intro hcz hmz);subst hcz hmz;go_wp2_with fail;go_roundg (work ts tb r+1)
        case measure=>omega
        case rel=>exact⟨g,off,0,0,(mo+1),_,_,(ovs++[.slice ap lp cp]),tr,(out++[p]),r,rfl,rfl,HMO.out,K4b.out.tail0,HQX,Nat.le_refl _,K4.out.2,by omega⟩
       ·have hcz2:¬ (cq:Int)=0:=(by omega);go_wp2_with fail;go_roundg (work ts tb r+1)
        case measure=>omega
        case rel=>exact⟨g,off+1,nr,cq,(mo+1),_,_,(ovs++[.slice ap lp cp]),tr,(out++[p]),r,rfl,rfl,HMO.out,K4b.out.tail,HQX,Nat.le_refl _,K4.out.2,by omega⟩
