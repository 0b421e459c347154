import Derived.Test.YthlccadnojnkaaaGreatZk37
import Derived.Test.YthlccadnojnkaaaGreatZk23
import Derived.Maps.RangeWalk
set_option maxHeartbeats 8000000
set_option maxRecDepth 100000
namespace Go.Proofs.YthlccadnojnkaaaGreat
open Go Go.RowKit Go.Proofs Co Co.S
structure CyI (W:World) (d2:Nat) (ts:List T) (st:List DT) (r:Nat) (left:Lit->Bool) (cnt:Nat) (mv:Value) (f:ByteArray->Option Nat) (n m:Nat) (O:Nat->Nat) (w:World):Prop where
 sch:Sch mv w d2 ts
 pm:PmS w mv f n m
 few:m+cnt<=ts.length
 vis:∀ j (hj:j<ts.length),(f ts[j].nm=none↔left (sL ts[j].nm)=true)
 no:∀ x,hasT ts x=false->f x=none
 tab:∀ j (hj:j<ts.length) (hj':j<st.length) p,f ts[j].nm=some p->∃ lab,Tb w p ts[j] st[j].2.1 st[j].2.2 lab/\∀ q,lab q≠0->O q=j+2
 od:O d2=1
 om:∀ b,mblk mv=some b->O b=1
 low:∀ q,O q≠0->W.heap.size<=q/\q<w.heap.size/\q≠r
 bel:Below W.heap.size W w
theorem aFw {w w':World} {P:Program} {k:TypeId} {H:Type} {R:Value->Option (DataW H×List MemPlace)} {b r n:Nat} {D:DataW H} {left:Lit->Bool} {cnt:Nat} (h:w.ranges P k R b r n D left cnt) (hg:w.grownBy w' (some r)):Tn (fun q=>q=r) w w':=by
 obtain⟨es,clock,since,seen,c0,_,_,_,_,hr,_⟩:=h;refine⟨⟨hg.os,hg.tape,hg.output,hg.size,fun q hq hn=>hg.block q hq (fun e=>hn (by cases e;rfl))⟩,fun q cur e m hq _=>?_⟩;refine (hg.block q (aC hq) (fun e'=>?_)).trans hq;cases e';rw[hr] at hq;cases hq
theorem xV {w:World} {P:Program} {k:TypeId} {H:Type} {R:Value->Option (DataW H×List MemPlace)} {b r n:Nat} {D:DataW H} {left:Lit->Bool} {cnt:Nat} (h:w.ranges P k R b r n D left cnt):cnt<=n:=by
 obtain⟨es,clock,since,seen,c0,_,_,h3,_,_,_,h6,_⟩:=h;have:(leftOf es seen).size<=es.size:=(by unfold leftOf;exact Array.size_filter_le);omega
theorem aBI {w w':World} {P:Program} {k:TypeId} {H:Type} {R:Value->Option (DataW H×List MemPlace)} {b r n:Nat} {D:DataW H} {left:Lit->Bool} {cnt:Nat} (h:w.ranges P k R b r n D left cnt) (hb:w'.heap[b]?=w.heap[b]?) (hr:w'.heap[r]?=w.heap[r]?):w'.ranges P k R b r n D left cnt:=by
 obtain⟨es,clock,since,seen,c0,h1,h2,h3,h4,h5,h6⟩:=h;exact⟨es,clock,since,seen,c0,hb.trans h1,h2,h3,h4,hr.trans h5,h6⟩
theorem aFx (x y:ByteArray):(sL x).sameKey (sL y)=decide (x=y):=by
 by_cases h:x=y
 ·subst h;rw[decide_eq_true rfl];exact WideAt.sameKey_self (lQ x)
 rw[decide_eq_false h];cases hh:(sL x).sameKey (sL y) with
 | false=>rfl
 | true=>exact absurd (xB ((WideAt.sameKey_iff (lQ y)).1 hh)) h
section
variable {W w w' w1 w2 w3:World} {d2 r cnt cnt' n m:Nat} {ts:List T} {st:List DT} {left:Lit->Bool} {mv:Value} {f:ByteArray->Option Nat} {O:Nat->Nat} {S:Nat->Prop}
theorem CyI.tn (h:CyI W d2 ts st r left cnt mv f n m O w) (hk:Tn S w w') (hs:∀ q,S q->O q=0/\W.heap.size<=q):CyI W d2 ts st r left cnt mv f n m O w':=by
 refine⟨h.sch.tn hk (fun hS=>by have:=(hs d2 hS).1;rw[h.od] at this;cases this),h.pm.of (fun b hb=>hk.chg.block b (h.pm.lt b hb) (fun hS=>by have:=(hs b hS).1;rw[h.om b hb] at this;cases this)),h.few,h.vis,h.no,fun j hj hj' p hp=>?_,h.od,h.om,fun q hq=>?_,h.bel.trans (hk.chg.below h.bel.size (fun q hq hS=>?_))⟩
 ·obtain⟨lab,a1,a2⟩:=h.tab j hj hj' p hp;exact⟨lab,a1.tn hk (fun q hq=>Classical.byContradiction fun hn=>by have:=a2 q hn;rw[(hs q hq).1] at this;omega),a2⟩
 ·obtain⟨a1,a2,a3⟩:=h.low q hq;exact⟨a1,Nat.lt_of_lt_of_le a2 hk.size,a3⟩
 have:=(hs q hS).2;omega
theorem CyI.later (h:CyI W d2 ts st r left cnt mv f n m O w) (hb:Below w.heap.size w w'):CyI W d2 ts st r left cnt mv f n m O w':=h.tn (S:=fun _=>False) (Tn.of_below hb) (fun _ h=>h.elim)
theorem CyI.step (h:CyI W d2 ts st r left cnt mv f n m O w1) (hr:r<w1.heap.size) {j:Nat} (hj:j<ts.length) (hj':j<st.length) (hnd:∀ a b (ha:a<ts.length) (hb:b<ts.length),ts[a].nm=ts[b].nm->a=b) (hb12:Below w1.heap.size w1 w2) {ob:Nat} {lab:Nat->Nat}
  (hT:Tb w2 ob ts[j] st[j].2.1 st[j].2.2 lab) (hlo:∀ b,lab b≠0->w1.heap.size<=b) (hP:PutR w2 d2 mv ts f n m ts[j].nm ob w3) (hcnt:cnt'<cnt) :
  ∃ mv' f' n' m' O',CyI W d2 ts st r (fun z=>left z&&!z.sameKey (sL ts[j].nm)) cnt' mv' f' n' m' O' w3/\w3.heap[r]?=w1.heap[r]?/\∀ b,b<W.heap.size->w3.heap[b]?=w1.heap[b]?:=by
 have h2:=h.later hb12;obtain⟨b,q1,q2,q3,q4⟩:=hP;have hz:=hb12.size;have hWz:=h.bel.size
 have htn:Tn (fun q=>q=d2∨mblk mv=some q) w2 w3:=Tn.of_chg q4 (fun q _ hq=>by
  rcases hq with rfl|hq
  ·obtain⟨_,xs,rest,k1,_⟩:=h2.sch;exact .inl ⟨_,122,k1,rfl⟩
  rcases h2.pm with ⟨rfl,_⟩ | ⟨b',rfl,hb'⟩
  ·cases hq
  cases hq;exact .inr hb'.isMap)
 have hz3:=htn.size
 have hO1:∀ q,(q=d2∨mblk mv=some q)->O q=1:=fun q hq=>by
  rcases hq with rfl|hq
  ·exact h.od
  exact h.om q hq
 have hlt3:b<w3.heap.size:=q2.lt
 have hbO:b<w1.heap.size->O b=1:=fun hlt=>by
  rcases q3 with h1|h1
  ·exact h.om b h1
  omega
 have hE:∀ q,q<w1.heap.size->(if q<w1.heap.size then O q else if q=b then 1 else if lab q≠0 then j+2 else 0)=O q:=(fun q hq=>if_pos hq);have hold:∀ q,q<w1.heap.size->O q≠1->w3.heap[q]?=w1.heap[q]?:=(fun q hq hn=>(htn.chg.block q (by omega) (fun hS=>hn (hO1 q hS))).trans (hb12.block q hq));refine⟨.map (some b),upS f ts[j].nm ob,n+1,m+1,fun q=>if q<w1.heap.size then O q else if q=b then 1 else if lab q≠0 then j+2 else 0,⟨q1,.inr ⟨b,rfl,q2⟩,by have:=h.few;omega,fun k hk=>?_,fun x hx=>?_,fun k hk hk' p hp=>?_,(hE d2 (h.low d2 (by rw[h.od];decide)).2.1).trans h.od,fun b' hb'=>?_,fun q hq=>?_,?_⟩,hold r hr (fun e=>(h.low r (by rw[e];decide)).2.2 rfl),fun q hq=>hold q (by omega) (fun e=>by have:=(h.low q (by rw[e];decide)).1;omega)⟩
 ·unfold upS;rw[aFx];by_cases e:ts[k].nm=ts[j].nm
  ·rw[if_pos e,decide_eq_true e];simp
  rw[if_neg e,decide_eq_false e,h.vis k hk];simp
 ·unfold upS;rw[if_neg (fun e=>lU hx hj e.symm)];exact h.no x hx
 ·unfold upS at hp;by_cases e:ts[k].nm=ts[j].nm
  ·obtain rfl:=hnd k j hk hj e;rw[if_pos rfl] at hp;cases hp;refine⟨lab,hT.tn htn (fun q hq=>Classical.byContradiction fun hn=>?_),fun q hq=>?_⟩
   ·have a1:=hlo q hn;have a2:=(h.low q (by rw[hO1 q hq];decide)).2.1;omega
   have a1:=hlo q hq;show (if q<w1.heap.size then O q else if q=b then 1 else if lab q≠0 then k+2 else 0)=k+2;rw[if_neg (by omega),if_neg (fun e=>?_),if_pos hq];have a2:=hT.lt q hq;rcases q3 with h1|h1
   ·have:=(h.low b (by rw[h.om b h1];decide)).2.1;omega
   omega
  rw[if_neg e] at hp;obtain⟨lk,a1,a2⟩:=h.tab k hk hk' p hp;exact⟨lk,(a1.later hb12).tn htn (fun q hq=>Classical.byContradiction fun hn=>by have h1:=a2 q hn;have h2:=hO1 q hq;omega),fun q hq=>(hE q (a1.lt q hq)).trans (a2 q hq)⟩
 ·cases hb';show (if b<w1.heap.size then O b else if b=b then 1 else _)=1;by_cases hlt:b<w1.heap.size
  ·rw[if_pos hlt];exact hbO hlt
  rw[if_neg hlt,if_pos rfl]
 ·have hq:(if q<w1.heap.size then O q else if q=b then 1 else if lab q≠0 then j+2 else 0)≠0:=hq;by_cases hlt:q<w1.heap.size
  ·rw[if_pos hlt] at hq;obtain⟨a1,a2,a3⟩:=h.low q hq;exact⟨a1,by omega,a3⟩
  refine⟨by omega,?_,fun e=>by omega⟩;rw[if_neg hlt] at hq;by_cases e:q=b
  ·rw[e];exact hlt3
  rw[if_neg e] at hq;by_cases hl:lab q≠0
  ·have:=hT.lt q hl;omega
  rw[if_neg hl] at hq;exact absurd rfl hq
 exact (aB h.bel hb12).trans (htn.chg.below (by omega) (fun q hq hS=>by
  have:=(h.low q (by rw[hO1 q hS];decide)).1
  omega))
theorem CyI.done (h:CyI W d2 ts st r left cnt mv f n m O w) (hall:∀ kl,left kl=false) (hlen:st.length=ts.length) (hnd:∀ a b (ha:a<ts.length) (hb:b<ts.length),ts[a].nm=ts[b].nm->a=b) :
  ∃ st',Dd w d2 ts st' O/\st'.map (·.2)=st.map (·.2)/\(∀ q,O q≠0->W.heap.size<=q):=by
 have hs:∀ j (hj:j<ts.length),∃ p,f ts[j].nm=some p:=fun j hj=>by
  cases hf:f ts[j].nm with
  | none=>rw[h.vis j hj,hall] at hf;cases hf
  | some p=>exact⟨p,rfl⟩
 have hl2:(List.zipWith (fun (t:T) (s:DT)=>((f t.nm).getD 0,s.2)) ts st).length=ts.length:=(by rw[List.length_zipWith,hlen,Nat.min_self]);refine⟨List.zipWith (fun (t:T) (s:DT)=>((f t.nm).getD 0,s.2)) ts st,⟨⟨mv,f,n,h.sch,?_,fun j hj hj'=>?_,h.no,h.om⟩,hl2,hnd,h.od,fun j hj hj'=>?_,fun q hq=>(h.low q hq).2.1⟩,?_,fun q hq=>(h.low q hq).1⟩
 ·have:=h.few
  rcases h.pm with ⟨e,h1,h2⟩ | ⟨b,e,h1⟩
  ·exact .inl ⟨e,h1,h2⟩
  exact .inr ⟨b,e,h1.mono (by omega)⟩
 ·rw[List.getElem_zipWith];obtain⟨p,hp⟩:=hs j hj;rw[hp];rfl
 ·rw[List.getElem_zipWith];obtain⟨p,hp⟩:=hs j hj;rw[hp];exact h.tab j hj (by omega) p hp
 apply List.ext_getElem
 ·rw[List.length_map,List.length_map,hl2,hlen]
 intro i h1 h2;rw[List.getElem_map,List.getElem_map,List.getElem_zipWith]
end
end Go.Proofs.YthlccadnojnkaaaGreat
namespace Go.Proofs.YthlccadnojnkaaaGreat
open Go Go.RowKit Go.Proofs Co Co.S Go.Maps Go.WideMaps
theorem oZ {ops:Array Oper} {rest:List Oper} {o:Oper} {a:Act} {w:World} {Q:Exit->Act->World->Prop} {l:List Value} {n mv:Value} {d:Nat} (hgd:o.guard=none) (x:Operand) (ho:o.op=.load 119 x)
  (hx:a.eval x=(Value.pointer (some ⟨d,0,none⟩))) (hl:l.length=32) (h:w.heap[d]?=some (.cells (l++[n,mv]).toArray 122))
  (hk:wpList Tryz.prog ops Q rest (a.put o.dst (.agg (l++[n]).toArray)) w):wpList Tryz.prog ops Q (o::rest) a w:=by
 have h33:(l++[n]).length=33:=by rw[List.length_append,hl];rfl
 have hc:(loadCells ⟨d,0,none⟩ 33).run Tryz.prog w=.ok (l++[n]).toArray w:=by
  have:=run_loadCells_list (P:=Tryz.prog) w ⟨d,0,none⟩ (l++[n]) (fun j v hv=>by
   have hadd:(⟨d,0,none⟩:Addr).add j=⟨d,j,none⟩:=(by unfold Addr.add;split <;> simp_all);rw[hadd]
   have:=aA h j
   have hj:j<(l++[n]).length:=(List.getElem?_eq_some_iff.1 hv).1
   have e:(l++[n,mv])[j]?=some v:=by
    rw[show l++[n,mv]=(l++[n])++[mv] by simp,List.getElem?_append_left hj];exact hv
   simp only[qDq] at this
   first|exact this.trans e | (rw[e] at this;exact this))
  rw[h33] at this;exact this
 have hv:(loadVar 119 ⟨d,0,none⟩).run Tryz.prog w=.ok (.agg (l++[n]).toArray) w:=by
  have hagg:(isAgg 119).run Tryz.prog w=.ok true w:=(by kernel_rfl);have hs:(sizeOf 119).run Tryz.prog w=.ok 33 w:=(by kernel_rfl);simp[loadVar,Sem.run_bind,hagg,hc]
 refine wpList_plain hgd fun _ hK=>?_
 unfold Oper.wp execOp;simp only[ho,hx,Instr.loadAt,Instr.sureAddr,Sem.run_bind,Sem.run_pure,Result.andThen_ok,hv];exact hK _ _ hk
theorem uD:∀ (l:List Value) (n:Value),l.length=32->n.oneCell'=true->Tryz.prog.built 122 [(0,.agg (l++[n]).toArray)]=some (l++[n,.map none]).toArray
 | [a0,a1,a2,a3,a4,a5,a6,a7,a8,a9,a10,a11,a12,a13,a14,a15,a16,a17,a18,a19,a20,a21,a22,a23,a24,a25,a26,a27,a28,a29,a30,a31],n,_,_=>by kernel_rfl
theorem lL {ops:Array Oper} {rest:List Oper} {o:Oper} {a:Act} {w:World} {Q:Exit->Act->World->Prop} {l:List Value} {n:Value} (hgd:o.guard=none) (x:Operand) (ho:o.op=.build 122 #[(0,x)])
  (hx:a.eval x=.agg (l++[n]).toArray) (hl:l.length=32) (hn:n.oneCell'=true)
  (hk:wpList Tryz.prog ops Q rest (a.put o.dst (.agg (l++[n,.map none]).toArray)) w):wpList Tryz.prog ops Q (o::rest) a w:=by
 refine wpList_build hgd 122 #[(0,x)] ho ?_ ?_
 ·simp only[List.map_toArray,List.map_cons,List.map_nil,hx];rw[uD l n hl hn];rfl
 simp only[List.map_toArray,List.map_cons,List.map_nil,hx];rw[uD l n hl hn];exact hk
theorem aDC {ts:List T} {st:List DT} {f:ByteArray->Option Nat} {D:DataW Unit} (hlen:st.length=ts.length) (hf:∀ j (h:j<ts.length) (h':j<st.length),f ts[j].nm=some st[j].1) (hno:∀ x,hasT ts x=false->f x=none)
  (hhas:∀ x,Maps.has D (sL x)=(f x).isSome) (hat:∀ x p,f x=some p->∀ z,D.atKey (sL x) z=.lit (.int .i64 (p:Int))) {x:ByteArray} {c:Option Nat} {kl:Lit} {y:DataW Unit×List MemPlace}
  (hk:keyOf Tryz.prog 9 (.string x)=some kl) (hv:ptrR (ptrV c)=some y) (ha:∀ zd,D.atKey kl zd=y.1) :
  ∃ (j:Nat) (_:j<ts.length) (_:j<st.length),ts[j].nm=x/\c=some st[j].1/\kl=sL x/\x.size<=maxLen:=by
 obtain⟨s,e1,e2,e3⟩:=string_of_keyOf Tryz.underlying9 hk;cases e1;have e2:kl=sL x:=e2;subst e2;cases hfx:f x with
 | none =>
  have hn:=hhas x;rw[hfx] at hn;have h1:=ha (.lit (.bool true));have h2:=ha (.lit (.bool false));rw[Maps.atKey_of_not_has hn] at h1 h2;rw[<- h1] at h2;cases h2
 | some p =>
  have h1:=ha (.lit (.bool true));rw[hat x p hfx] at h1;obtain⟨y1,y2⟩:=y;dsimp only at h1;subst h1;have h2:=zN hv
  have hc:c=some p:=by
   cases c with
   | none=>cases h2
   | some q=>cases h2;rfl
  have ht:hasT ts x=true:=by
   cases hh:hasT ts x with
   | true=>rfl
   | false=>rw[hno x hh] at hfx;cases hfx
  rw[dK,Option.isSome_iff_exists] at ht;obtain⟨t,ht⟩:=ht;obtain⟨j,hj,h3,h4⟩:=aDr ht;have hj':j<st.length:=(by rw[hlen];exact hj);have h5:=hf j hj hj';rw[h3,h4,hfx] at h5;exact⟨j,hj,hj',by rw[h3];exact h4,hc.trans h5,rfl,e3⟩
theorem aIb:∀ key kl,keyOf Tryz.prog 9 key=some kl->∃ x,key=Value.string x:=fun key kl h=>by
 obtain⟨s,e1,_⟩:=string_of_keyOf Tryz.underlying9 h;exact⟨s,e1⟩
theorem aIc:∀ v y,ptrR v=some y->∃ c,v=ptrV c:=fun v y h=>by
 unfold ptrR at h;split at h
 ·exact⟨none,rfl⟩
 ·rename_i a;split at h
  ·rename_i hc;obtain⟨b,off,spot⟩:=a;obtain⟨rfl,rfl⟩:off=0/\spot=none:=hc;exact⟨some b,rfl⟩
  ·cases h
 ·cases h
theorem pS {W:World} {d:Nat} {ts:List T} {st:List DT} {O:Nat->Nat} (h:Dd W d ts st O) (hfew:AllFew ts) (hsz:Short ts) (hkd:∀ t∈ts,∀ c∈t.cols,c.kd=1∨c.kd=2) (hcols:∀ t∈ts,0<t.cols.length) (hnx:∀ s∈st,s.2.1<=590) (h0:0<ts.length) :
  Calls Tryz.prog 57 #[.pointer (some ⟨d,0,none⟩)] W fun e w'=>∃ d2 st2 O2,e=.returned (Value.pointer (some ⟨d2,0,none⟩))/\Dd w' d2 ts st2 O2/\st2.map (·.2)=st.map (·.2)/\(∀ q,O2 q≠0->W.heap.size<=q)/\Below W.heap.size W w':=by
 obtain⟨mv,f,n,k1,k2,k3,k4,k5⟩:=h.own;have h0':0<st.length:=(by rw[h.len];exact h0);rcases k2 with ⟨_,_,hf0⟩ | ⟨mb,rfl,hMp⟩
 ·have:=k3 0 h0 h0'
  rw[hf0] at this;cases this
 have hmc:=k1.mapc;have hmb:=hMp.lt;obtain⟨h8,xs,rest,hbx,hl,hTabs⟩:=k1;rw[show xs++(rest++[Value.int .i64 (ts.length:Int),Value.map (some mb)])=(xs++rest)++[Value.int .i64 (ts.length:Int),Value.map (some mb)] by simp] at hbx;have hl32:(xs++rest).length=32:=(by rw[List.length_append];exact hl);obtain⟨l,hle⟩:∃ l,xs++rest=l:=⟨_,rfl⟩;rw[hle] at hbx hl32;obtain⟨tl,htl⟩:∃ n,ts.length=n:=⟨_,rfl⟩;have hba:=aD W (.cells (l++[Value.int .i64 (ts.length:Int),Value.map none]).toArray 122);have hna:=heap_alloc_new W (.cells (l++[Value.int .i64 (ts.length:Int),Value.map none]).toArray 122);have hz1:=World.size_alloc W (.cells (l++[Value.int .i64 (ts.length:Int),Value.map none]).toArray 122);obtain⟨w1,hw1⟩:∃ w1,W.alloc (.cells (l++[Value.int .i64 (ts.length:Int),Value.map none]).toArray 122)=w1:=⟨_,rfl⟩;obtain⟨d2,hd2⟩:∃ d2,W.heap.size=d2:=⟨_,rfl⟩;rw[hw1] at hba hna hz1;rw[hd2] at hna hz1;have hsch:Sch (.map none) w1 d2 ts:=⟨h8,xs,rest,by rw[show xs++(rest++[Value.int .i64 (ts.length:Int),Value.map none])=(xs++rest)++[Value.int .i64 (ts.length:Int),Value.map none] by simp,hle];exact hna,hl,hTabs.kp (Tn.of_below (S:=fun _=>False) hba).kpX⟩;have hMp1:Mp w1 mb f n ts.length:=hMp.of (hba.block mb hmb);obtain⟨D,hown,hDn,hhas,hat⟩:=hMp1.own;have c33:w1.cell? ⟨d,33,none⟩=some (.map (some mb)):=(World.cell?_of_block (a:=⟨d,33,none⟩) (hba.block d hmc.2.1)).trans hmc.1;have hd1:d<w1.heap.size:=(by have:=hba.size;omega);have HENT:Hid (∀ (x:ByteArray) (c:Option Nat) (kl:Lit) (y:DataW Unit×List MemPlace),keyOf Tryz.prog 9 (.string x)=some kl->ptrR (ptrV c)=some y->(∀ zd,D.atKey kl zd=y.1)->∃ (j:Nat) (_:j<ts.length) (_:j<st.length),ts[j].nm=x/\c=some st[j].1/\kl=sL x/\x.size<=maxLen):=qAq (fun x c kl y hk hv ha=>aDC h.len k3 k4 hhas hat hk hv ha)
 have HD:Hid (∀ w,Below W.heap.size W w->∀ j (hj:j<ts.length) (hj':j<st.length),∃ lab,Tb w st[j].1 ts[j] st[j].2.1 st[j].2.2 lab):=qAq (fun w hw j hj hj'=>by
  obtain⟨lab,a1,_⟩:=(h.later hw).tab j hj hj';exact⟨lab,a1⟩)
 have HF:=qAq (qBq hfew (qBq hsz (qBq hkd (qBq hcols (qBq hnx (qBq h.len h.nd))))));have HW:=qAq (qBq hw1 (qBq hd2 (qBq hba (qBq hz1 (qBq hsch hhas)))));have HK3:=qAq k3;rw[htl] at hbx hw1;have HW1:=qAq hw1;have hone:(Value.int .i64 (tl:Int)).oneCell'=true:=rfl;clear hw1 hd2 hba hna hz1 hsch hMp hMp1 hTabs hl hle h hfew hkd hcols hnx h0 h0' k3 k4 k5 hmc hat hhas;go_enter Tryz.func57,Tryz.ntmps57
 go_upto_region 4 with (first
  | (refine oZ rfl (.tmp 10) rfl rfl hl32 hbx ?_)
  | (refine lL rfl (.tmp 11) rfl rfl hl32 hone ?_))
 rw[HW1.out,HW.out.2.1]
 go_wp2_with (first
  | (at_range;refine wpList_range_own _ rfl _ 120 rfl 9 62 aBc Tryz.underlying120 ptrR mb ts.length D rfl hown ?_;intro w2 hrg2 hg2 hs2)
  | go_in)
 go_frame
 obtain⟨r,hr⟩:∃ r,w1.heap.size=r:=⟨_,rfl⟩;have hrg2:w2.ranges Tryz.prog 9 ptrR mb r ts.length D (Maps.has D) (Maps.size D):=hr▸hrg2;rw[hr];have hcnt0:=xV hrg2;have hrd:r=d2+1:=by rw[<- hr];exact HW.out.2.2.2.1
 have hC0:CyI W d2 ts st r (Maps.has D) (Maps.size D) (.map none) (fun _=>none) 0 0 (fun q=>if q=d2 then 1 else 0) w2:=by
  obtain⟨_,e2,e3,e4,e5,e6⟩:=HW.out;have hb12:Below w1.heap.size w1 w2:=⟨hg2.os,hg2.tape,hg2.output,hg2.size,fun i hi=>hg2.block i hi (by simp)⟩
  have h1:CyI W d2 ts st r (Maps.has D) (Maps.size D) (.map none) (fun _=>none) 0 0 (fun q=>if q=d2 then 1 else 0) w1:=⟨e5,.inl ⟨rfl,rfl,fun _=>rfl⟩,by omega,fun j hj=>⟨fun _=>by
   rw[e6,HK3.out j hj (by rw[HF.out.2.2.2.2.2.1];exact hj)];rfl,fun _=>rfl⟩,fun _ _=>rfl,fun _ _ _ _ hp=>(by cases hp),if_pos rfl,fun b hb=>(by cases hb),fun q hq=>by
    by_cases e:q=d2
    ·subst e;exact⟨by omega,by omega,by omega⟩
    exact absurd (if_neg e) hq,e3⟩
  exact h1.later hb12
 have HC0:=qAq (qBq hrg2 (qBq hC0 (qBq hcnt0 hrd)));clear hrg2 hg2 hs2 hcnt0 hrd hC0 hown c33 hd1 hbx hr;go_loopg [4] (ts.length+1) (fun gh pv w=>∃ (left:Lit->Bool) (cnt:Nat) (mv':Value) (f':ByteArray->Option Nat) (n' m':Nat) (O':Nat->Nat),cnt+1<=gh/\w.ranges Tryz.prog 9 ptrR mb r ts.length D left cnt/\CyI W d2 ts st r left cnt mv' f' n' m' O' w)
 case atStart=>exact⟨_,_,_,_,_,_,_,by have:=HC0.out.2.2.1;omega,HC0.out.1,HC0.out.2.1⟩
 obtain⟨left,cnt,mv',f',n',m',O',hg,hrg,hC⟩:=hrel;have HC:=qAq (qBq hC hrg);have hor:O' r=0:=(Classical.byContradiction fun hn=>(hC.low r hn).2.2 rfl);have hWr:W.heap.size<=r:=(by have:=HC0.out.2.2.2;have:=HW.out.2.1;omega);have HR:=qAq (qBq hor hWr);clear hC hor hWr
 go_wp2_with (first
  | (at_next;refine wpList_next_ranges _ rfl _ rfl 9 aBc ptrR Value.string ptrV aIb aIc mb r ts.length D left cnt rfl hrg (fun hc0 hl0=>?_) (fun x c kl y w3 cnt' hkey hlk hv hat hrg3 hlt3 hg3 hs3 hen=>?_);rotate_left;(obtain⟨j,hj,hj',hxe,rfl,rfl,hxs⟩:=HENT.out x c kl y hkey hv hat;have hC3:=HC.out.1.tn (aFw HC.out.2 hg3) (fun q (hq:q=r)=>hq▸HR.out);obtain⟨lab0,hT0⟩:=HD.out w3 hC3.bel j hj hj';have hcopy:=zS hT0 (HF.out.1 _ (List.getElem_mem hj)) (HF.out.2.2.1 _ (List.getElem_mem hj)) (HF.out.2.2.2.2.1 _ (List.getElem_mem hj')) (HF.out.2.2.2.1 _ (List.getElem_mem hj));simp only[show ptrV (some st[j].1)=(Value.pointer (some ⟨st[j].1,0,none⟩)) from rfl] at hen ⊢;obtain⟨tbj,htbj⟩:∃ v,st[j].1=v:=⟨_,rfl⟩;simp only[htbj] at hen hcopy ⊢;have H3:=qAq (qBq hC3 (qBq hrg3 (qBq hlt3 (qBq hlk hxe))));clear hC3 hrg3 hlt3 hlk hxe hT0 htbj hkey hv hat hg3 hs3);rotate_left)
  | (go_at_call 93;(with_reducible refine hcopy.mono ?_);rintro e w4 ⟨ob,lab,rfl,hT4,hlo4,hb4⟩;have H4:=qAq (qBq hT4 (qBq hlo4 hb4));have hput:=tV (tb:=ob) ((H3.out.1.later hb4).sch) ((H3.out.1.later hb4).pm) hxs (by rw[<- H3.out.2.2.2.2];exact (H3.out.1.vis _ _).2 (by rw[H3.out.2.2.2.2];exact H3.out.2.2.2.1)) (by have:=H3.out.1.few;have:=(HW.out.2.2.2.2.1).1;omega);clear hcopy hT4 hlo4 hb4)
  | (go_at_call 64;(with_reducible refine hput.mono ?_);rintro e w5 ⟨rfl,hP⟩;have HP:=qAq hP;clear hput hP))
 ·go_ret;obtain⟨st',a1,a2,a3⟩:=HC.out.1.done hl0 HF.out.2.2.2.2.2.1 HF.out.2.2.2.2.2.2;exact⟨d2,st',O',rfl,a1,a2,a3,HC.out.1.bel⟩
 obtain⟨hC3,hrg3,hlt3,hlk,hxe⟩:=H3.out;obtain⟨hT4,hlo4,hb4⟩:=H4.out;have hP:=HP.out;subst hxe;obtain⟨mv2,f2,n2,m2,O2,b1,b2,b3⟩:=hC3.step hrg3.lt hj hj' HF.out.2.2.2.2.2.2 hb4 hT4 hlo4 hP hlt3;have hmW:mb<W.heap.size:=(by assumption);have HB:=qAq (qBq b1 (aBI hrg3 (b3 mb hmW) b2));clear b1 b2 b3 hC3 hrg3 hT4 hlo4 hb4 hP;go_roundg cnt
 case measure=>omega
 exact⟨_,_,mv2,f2,n2,m2,O2,by omega,HB.out.2,HB.out.1⟩
