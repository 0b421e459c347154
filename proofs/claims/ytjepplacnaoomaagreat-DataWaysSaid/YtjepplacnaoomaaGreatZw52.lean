import Derived.Test.YtjepplacnaoomaaGreatZw51
import Derived.Test.YtjepplacnaoomaaGreatZw10
set_option maxHeartbeats 8000000
set_option maxRecDepth 100000
namespace Go.Proofs.YtjepplacnaoomaaGreat
open Go Go.RowKit Go.Proofs Co Co.S
theorem row_movedW {w:World} {base n g cap a:Nat} {xs:List Value} {z:Value} (hn:xs.length=n) (ha:a<=n) (cur:Array Value) (h:HRow w base 24 1 (.slice (some ⟨g,0,none⟩) (n+1) cap) (n+1) (xs++[z])) (hg:w.heap[g]?=some (.cells cur 24 (0,0))) (x:Value) :
  ∃ M:List Value,M.length=n+1/\M.set a x=xs.take a++x::xs.drop a /\
  HRow (w.setRow g (cur.toList.take (a+1)++xs.drop a++cur.toList.drop (a+1+(xs.drop a).length)).toArray) base 24 1 (.slice (some ⟨g,0,none⟩) (n+1) cap) (n+1) M:=by
 have hm:(xs.drop a).length=n-a:=(by rw[List.length_drop,hn]);have hs:=h.spliced cur hg (a+1) (xs.drop a) (by rw[hm];omega);refine⟨(xs++[z]).take (a+1)++xs.drop a,by simp;omega,?_,?_⟩
 ·have e:(xs++[z]).take (a+1)=(xs++[z]).take a++[(xs++[z])[a]'(by simp;omega)]:=List.take_succ_eq_append_getElem _;rw[e,List.take_append_of_le_length (by omega)];have hl:(xs.take a).length=a:=(by simp;omega);generalize (xs++[z])[a]'_=y;rw[List.append_assoc,List.set_append_right _ _ (by omega),hl]
  simp
 ·have hz:(xs++[z]).drop (a+1+(xs.drop a).length)=[]:=List.drop_eq_nil_of_le (by rw[hm];simp;omega);rw[hz,List.append_nil] at hs;exact hs
theorem row_srcW {w:World} {base n g cap:Nat} {xs:List Value} {z:Value} (h:HRow w base 24 1 (.slice (some ⟨g,0,none⟩) (n+1) cap) (n+1) (xs++[z])) (a:Nat) :
  ∀ j u,(xs.drop a)[j]?=some u->w.cell? ((⟨g,a,none⟩:Addr).add j)=some u:=fun j u hj=>by
 rw[Addr.add_lit];refine h.cell ?_;rw[List.getElem?_drop] at hj;rw[List.getElem?_append_left (List.getElem?_eq_some_iff.1 hj).1];exact hj
section
variable {B g off n cap:Nat} {vs:List Value} {w w':World}
variable {ts:List T} {tb:ByteArray} {out td:List (List ByteArray)} {p:List ByteArray}
theorem pcol_one {ts:List T} (hN:Nice ts) {tb:ByteArray} {c:C} (hc:c∈colsAt ts tb):pcol ts tb [c.nm]=(c,tb,0):=by
 obtain⟨h1,h2⟩:=col_by (hN.cols tb).1 hc;unfold pcol;rw[if_pos h2,h1];rfl
theorem pcol_cons (ts:List T) (tb x:ByteArray) (r:List ByteArray):pcol ts tb (x::r)=if hasC (colsAt ts tb) x=true then (if r.isEmpty=true then (orC (colOf (colsAt ts tb) x),tb,0) else if eqS (orC (colOf (colsAt ts tb) x)).tgt e0=true then (zeroC,e0,9) else pcol ts (orC (colOf (colsAt ts tb) x)).tgt r) else (zeroC,e0,3):=by rw[pcol]
theorem emp:([]:List ByteArray).isEmpty=true:=rfl
theorem pcol_snoc {ts:List T} (hN:Nice ts):∀ {q:List ByteArray} {tb:ByteArray} {c:C},q≠[]->(pcol ts tb q).2.2=0->c∈colsAt ts (pcol ts tb q).1.tgt->pcol ts tb (q++[c.nm])=(c,(pcol ts tb q).1.tgt,0)
 | [],_,_,h,_,_=>absurd rfl h
 | x::r,tb,c,_,h,hc=>by
  rw[List.cons_append,pcol_cons];rw[pcol_cons] at h hc ⊢;by_cases hx:hasC (colsAt ts tb) x=true
  ·rw[if_pos hx] at h hc ⊢;rw[if_pos hx];cases r with
   | nil =>
    rw[if_pos emp] at hc ⊢
    have hne:¬ eqS (orC (colOf (colsAt ts tb) x)).tgt e0=true:=fun e=>by
     rw[eqS_iff] at e;simp only[e,hN.noCols] at hc;simp at hc
    rw[List.nil_append,if_neg (by simp),if_neg hne];exact pcol_one hN hc
   | cons y r =>
    have n1:¬ (y::r++[c.nm]).isEmpty=true:=(by simp);have n2:¬ (y::r).isEmpty=true:=(by simp);rw[if_neg n2] at h hc ⊢;rw[if_neg n1];by_cases he:eqS (orC (colOf (colsAt ts tb) x)).tgt e0=true
    ·rw[if_pos he] at h;simp at h
    ·rw[if_neg he] at h hc ⊢;rw[if_neg he];exact pcol_snoc hN (q:=y::r) (by simp) h hc
  ·rw[if_neg hx] at h;simp at h
theorem pcol_mem {ts:List T}:∀ {q:List ByteArray} {tb:ByteArray},(pcol ts tb q).2.2=0->∃ t,(pcol ts tb q).1∈colsAt ts t
 | [],tb,h=>by simp[pcol] at h
 | x::r,tb,h=>by
  unfold pcol at h ⊢;by_cases hx:hasC (colsAt ts tb) x=true
  ·rw[if_pos hx] at h ⊢;obtain⟨c,hc,_,ho⟩:=col_has hx;cases r with
   | nil=>rw[if_pos emp];exact⟨tb,by rw[ho];exact hc⟩
   | cons y r =>
    rw[if_neg (by simp)] at h ⊢;by_cases he:eqS (orC (colOf (colsAt ts tb) x)).tgt e0=true
    ·rw[if_pos he] at h;simp at h
    ·rw[if_neg he] at h ⊢;exact pcol_mem h
  ·rw[if_neg hx] at h;simp at h
def atT (ts:List T) (tb:ByteArray) (p:List ByteArray):ByteArray:=if p.isEmpty=true then tb else (pcol ts tb p).1.tgt
def desc (ts:List T) (tb:ByteArray) (p:List ByteArray):List (List ByteArray):=waysP ts (4-p.length) (atT ts tb p) p
def G (ts:List T) (tb:ByteArray) (p:List ByteArray):List (List ByteArray):=p::desc ts tb p
def F (ts:List T) (tb:ByteArray) (p:List ByteArray):List (List ByteArray):=if p.isEmpty=true then desc ts tb p else p::desc ts tb p
def OKp (ts:List T) (tb:ByteArray) (p:List ByteArray):Prop:=(p=[]∨(pcol ts tb p).2.2=0)/\p.length<=4
def kidsP (ts:List T) (tb:ByteArray) (p:List ByteArray):List (List ByteArray):=(colsAt ts (atT ts tb p)).map (fun c=>p++[c.nm])
theorem pcol_kid {ts:List T} (hN:Nice ts) {tb:ByteArray} {p:List ByteArray} (h:OKp ts tb p) {c:C} (hc:c∈colsAt ts (atT ts tb p)):(pcol ts tb (p++[c.nm])).1=c/\(pcol ts tb (p++[c.nm])).2.2=0:=by
 unfold atT at hc;by_cases hp:p=[]
 ·subst hp;rw[if_pos emp] at hc;rw[List.nil_append,pcol_one hN hc];exact⟨rfl,rfl⟩
 ·have hne:¬ p.isEmpty=true:=(by rw[List.isEmpty_iff];exact hp);rw[if_neg hne] at hc;rw[pcol_snoc hN hp (h.1.resolve_left hp) hc];exact⟨rfl,rfl⟩
theorem kid_ok {ts:List T} (hN:Nice ts) {tb:ByteArray} {p:List ByteArray} (h:OKp ts tb p) (hl:p.length<4) {q:List ByteArray} (hq:q∈kidsP ts tb p):OKp ts tb q/\q≠[]:=by
 obtain⟨c,hc,rfl⟩:=List.mem_map.1 hq;exact⟨⟨.inr (pcol_kid hN h hc).2,by rw[List.length_append,List.length_cons,List.length_nil];omega⟩,by simp⟩
theorem kid_F {ts:List T} {tb:ByteArray} {p q:List ByteArray} (hq:q∈kidsP ts tb p):F ts tb q=G ts tb q:=by
 obtain⟨c,_,rfl⟩:=List.mem_map.1 hq;unfold F G;rw[if_neg (by simp)]
theorem flat_eq {α β:Type} {f g:α->List β}:∀ (l:List α),(∀ x∈l,f x=g x)->l.flatMap f=l.flatMap g
 | [],_=>rfl
 | a::r,h=>by rw[List.flatMap_cons,List.flatMap_cons,h a (by simp),flat_eq r (fun x hx=>h x (by simp[hx]))]
theorem desc_kids {ts:List T} (hN:Nice ts) {tb:ByteArray} {p:List ByteArray} (h:OKp ts tb p) (hl:p.length<4):desc ts tb p=(kidsP ts tb p).flatMap (G ts tb):=by
 obtain⟨k,hk⟩:∃ k,4-p.length=k+1:=⟨3-p.length,by omega⟩;unfold desc kidsP;rw[hk];unfold waysP;rw[List.flatMap_map];refine flat_eq _ (fun c hc=>?_);unfold G desc;have e:4-(p++[c.nm]).length=k:=by rw[List.length_append,List.length_cons,List.length_nil];omega
 have e2:atT ts tb (p++[c.nm])=c.tgt:=by
  unfold atT;rw[if_neg (by simp),(pcol_kid hN h hc).1]
 rw[e,e2]
theorem desc_none {ts:List T} (hN:Nice ts) {tb:ByteArray} {p:List ByteArray} (h:atT ts tb p=e0∨4<=p.length):desc ts tb p=[]:=by
 unfold desc;rcases h with h|h
 ·rw[h];cases 4-p.length with
  | zero=>rfl
  | succ k=>unfold waysP;rw[hN.noCols];rfl
 ·rw[show 4-p.length=0 by omega];rfl
def work (ts:List T) (tb:ByteArray) (td:List (List ByteArray)):Nat:=(td.flatMap (G ts tb)).length
theorem work_le (ts:List T) (tb:ByteArray):∀ (td:List (List ByteArray)),td.length<=work ts tb td
 | []=>Nat.le_refl _
 | p::r=>by
  have:=work_le ts tb r
  unfold work at this ⊢;rw[List.flatMap_cons,List.length_append,List.length_cons];unfold G;rw[List.length_cons];unfold G at this;omega
theorem work_cons (ts:List T) (tb:ByteArray) (p:List ByteArray) (r:List (List ByteArray)):work ts tb (p::r)=1+(desc ts tb p).length+work ts tb r:=by
 unfold work;rw[List.flatMap_cons,List.length_append];unfold G;rw[List.length_cons];omega
theorem work_kids {ts:List T} (hN:Nice ts) {tb:ByteArray} {p:List ByteArray} (h:OKp ts tb p) (hl:p.length<4) (r:List (List ByteArray)):work ts tb (r++kidsP ts tb p)+1=work ts tb (p::r):=by
 rw[work_cons,desc_kids hN h hl];unfold work;rw[List.flatMap_append,List.length_append];omega
structure Qi (ts:List T) (tb:ByteArray) (out td:List (List ByteArray)):Prop where
 all:(out++td.flatMap (F ts tb)).Perm (waysP ts 4 tb [])
 ok:∀ p∈td,OKp ts tb p
theorem Qi.start (ts:List T) (tb:ByteArray):Qi ts tb [] [[]]:=by
 refine⟨?_,fun p hp=>?_⟩
 ·have e:([]++[[]].flatMap (F ts tb))=waysP ts 4 tb []:=by
   rw[List.flatMap_cons,List.flatMap_nil,List.append_nil,List.nil_append];rfl
  rw[e]
 ·rw[List.mem_singleton] at hp;subst hp;exact⟨.inl rfl,by simp⟩
theorem work_start {ts:List T} (hN:Nice ts) (tb:ByteArray):work ts tb [[]]<=1555:=by
 rw[work_cons];have h1:=ways_len hN 4 tb [];have h2:manyW 4=1554:=(by decide);have e:desc ts tb []=waysP ts 4 tb []:=rfl;have e2:work ts tb []=0:=rfl;rw[e,e2];omega
def out1 (out:List (List ByteArray)) (p:List ByteArray):List (List ByteArray):=if p.isEmpty=true then out else out++[p]
theorem Qi.next (hN:Nice ts) (h:Qi ts tb out (p::td)) (hl:p.length<4):Qi ts tb (out1 out p) (td++kidsP ts tb p):=by
 have hp:=h.ok p (by simp)
 have hd:(kidsP ts tb p).flatMap (F ts tb)=desc ts tb p:=by
  rw[desc_kids hN hp hl];exact flat_eq _ (fun q hq=>kid_F hq)
 refine⟨?_,fun q hq=>?_⟩
 ·refine List.Perm.trans ?_ h.all;rw[List.flatMap_append,hd,List.flatMap_cons];have hx:=List.perm_append_comm (l₁:=td.flatMap (F ts tb)) (l₂:=desc ts tb p);have hF:F ts tb p=if p.isEmpty=true then desc ts tb p else p::desc ts tb p:=rfl
  rw[hF];unfold out1;by_cases he:p.isEmpty=true
  ·rw[if_pos he,if_pos he];exact List.Perm.append_left _ hx
  ·rw[if_neg he,if_neg he,List.append_assoc];exact List.Perm.append_left _ (List.Perm.cons p hx)
 ·rcases List.mem_append.1 hq with hq|hq
  ·exact h.ok q (by simp[hq])
  ·exact (kid_ok hN hp hl hq).1
theorem Qi.skip (hN:Nice ts) (h:Qi ts tb out (p::td)) (hl:atT ts tb p=e0∨4<=p.length):Qi ts tb (out1 out p) td:=by
 refine⟨?_,fun q hq=>h.ok q (by simp[hq])⟩;refine List.Perm.trans ?_ h.all;rw[List.flatMap_cons];have hF:F ts tb p=if p.isEmpty=true then desc ts tb p else p::desc ts tb p:=rfl
 rw[hF,desc_none hN hl];unfold out1;by_cases he:p.isEmpty=true
 ·rw[if_pos he,if_pos he,List.nil_append]
 ·rw[if_neg he,if_neg he,List.append_assoc]
theorem Qi.done (h:Qi ts tb out []):out.Perm (waysP ts 4 tb []):=by
 have:=h.all
 rwa [List.flatMap_nil,List.append_nil] at this
theorem Qi.found (hN:Nice ts) (h0:∃ u,findT ts tb=some u) (h:OKp ts tb p) (hne:eqS (atT ts tb p) e0=false):∃ u,findT ts (atT ts tb p)=some u:=by
 by_cases hp:p=[]
 ·subst hp;exact h0
 ·have hne2:¬ p.isEmpty=true:=(by rw[List.isEmpty_iff];exact hp);unfold atT at hne ⊢;rw[if_neg hne2] at hne ⊢;obtain⟨t,ht⟩:=pcol_mem (h.1.resolve_left hp);rcases (hN.cols t).2.2 _ ht with e|e
  ·rw[e,eqS_self] at hne;cases hne
  ·exact e
def QR (B g off n cap:Nat) (vs:List Value) (w:World):Prop:=vs.length=n/\B<=g/\n<=cap/\cap<=maxLen/\∃ cur,w.heap[g]?=some (.cells cur 24 (0,0))/\off+cap<=cur.size/\∀ j u,vs[j]?=some u->cur[off+j]?=some u
theorem QR.of (h:QR B g off n cap vs w) (hk:w'.heap[g]?=w.heap[g]?):QR B g off n cap vs w':=by
 obtain⟨h1,h2,h3,h4,cur,h5,h6⟩:=h;exact⟨h1,h2,h3,h4,cur,hk.trans h5,h6⟩
theorem QR.lt (h:QR B g off n cap vs w):g<w.heap.size:=by
 obtain⟨h1,h2,h3,h4,cur,h5,h6⟩:=h;exact lt_of_heap h5
theorem QR.cell (h:QR B g off n cap vs w) {j:Nat} {u:Value} (hj:vs[j]?=some u):w.cell? ⟨g,off+j,none⟩=some u:=by
 obtain⟨h1,h2,h3,h4,cur,h5,_,h6⟩:=h;rw[nd_cell h5];exact h6 j u hj
theorem QR.tail {u:Value} {r:List Value} (h:QR B g off (n+1) (cap+1) (u::r) w):QR B g (off+1) n cap r w:=by
 obtain⟨h1,h2,h3,h4,cur,h5,h6,h7⟩:=h;refine⟨by simpa using h1,h2,by omega,by omega,cur,h5,by omega,fun j x hj=>?_⟩
 have:=h7 (j+1) x (by simpa using hj)
 rw[show off+1+j=off+(j+1) by omega];exact this
theorem QR.snoc (h:QR B g off n cap vs w) {gb c1:Nat} {u:Value} (hb:w.heap[gb]?=some (.cells #[u] 24)) (hu:u.oneCell'=true) (hn:n<=100000) (hB:B<=w.heap.size) {ty:Nat} :
  ∃ g' off' cap' w',(Builtin.append_ #[53,53] ty #[.slice (some ⟨g,off,none⟩) n cap,.slice (some ⟨gb,0,none⟩) 1 c1]).run Tryz.prog w=.ok (.slice (some ⟨g',off',none⟩) (n+1) cap') w' /\
   QR B g' off' (n+1) cap' (vs++[u]) w'/\w.grownBy w' (some g)/\(g'=g∨w.heap.size<=g'):=by
 obtain⟨h1,h2,h3,h4,cur,h5,h6,h7⟩:=h;obtain⟨i0,hi0,hz0,hz1,hz2⟩:=info_parts infoP24
 have hnews:∀ j x,[u][j]?=some x->w.cell? ((⟨gb,0,none⟩:Addr).add j)=some x:=fun j x hj=>by
  rw[Addr.add_lit,Nat.zero_add,nd_cell hb,List.getElem?_toArray];exact hj
 have h1u:∀ x∈[u],x.oneCell'=true:=fun x hx=>by
  rw[List.mem_singleton] at hx;subst hx;exact hu
 by_cases hroom:n+1<=cap
 ·have hlt:off+n<cur.size:=by omega
  have hr:=run_append_room_cells (P:=Tryz.prog) w 53 ty 24 i0 Tryz.underlying53 hi0 g off n cap ⟨gb,0,none⟩ 1 c1 [u] (by rw[hz1];rfl) hnews h1u hroom (fun j hj=>by
   have:j=0:=(by simp at hj;omega);subst this;rw[hz1,Nat.mul_one,Nat.add_zero,nd_cell h5,Array.getElem?_eq_getElem hlt];rfl) (fun j _=>frozen_of_row w g _ _ _ h5)
  rw[hz1,Nat.mul_one] at hr;refine⟨g,off,cap,_,hr,⟨by rw[List.length_append,h1];rfl,h2,hroom,h4,cur.setIfInBounds (off+n) u,heap_setCell_same w g (off+n) _ _ u h5,by rw[Array.size_setIfInBounds];exact h6,fun j x hj=>?_⟩,⟨rfl,rfl,rfl,by simp[World.setCells,World.setCell],fun k hk hne=>?_⟩,.inl rfl⟩
  ·rw[Array.getElem?_setIfInBounds];by_cases e:j<vs.length
   ·rw[List.getElem?_append_left e] at hj;rw[if_neg (by omega)];exact h7 j x hj
   ·rw[List.getElem?_append_right (by omega)] at hj
    have e0:j-vs.length=0:=by
     rcases Nat.eq_zero_or_pos (j-vs.length) with e|e
     ·exact e
     ·rw[List.getElem?_eq_none (by simp;omega)] at hj;cases hj
    rw[e0] at hj;cases hj;rw[if_pos (by omega),if_pos (by omega)]
  ·exact heap_setCell_other w ⟨g,off+n,none⟩ k u (fun e=>hne (by rw[e]))
 ·obtain⟨v',w',r1,r2,r3⟩:=run_append_arg_grows (P:=Tryz.prog) w 53 ty 24 i0 _ 1 24 Tryz.underlying53 hi0 hz0 hz1 hz2 rfl (by decide) ⟨g,off,none⟩ n cap vs (by omega) (fun j x hj=>by
   rw[Addr.add_lit,nd_cell h5];exact h7 j x hj) ⟨gb,0,none⟩ 1 c1 [u] rfl hnews (by omega) (by unfold maxLen;omega) (by omega)
  have hrow:=HRow.of_own r2;obtain⟨g',cap',rfl,hc1,hc2⟩:=hrow.slice (by omega);obtain⟨cur',hb',hg',_,_,hcs',ht'⟩:=hrow.form;have hlen:=hrow.1;refine⟨g',0,cap',w',r1,⟨by rw[List.length_append,h1];rfl,Nat.le_trans hB hb',hc1,hc2,cur',hg',by omega,fun j x hj=>?_⟩,⟨r3.os,r3.tape,r3.output,r3.size,fun k hk _=>r3.block k hk (by simp)⟩,.inr hb'⟩;rw[<- ht',List.getElem?_take] at hj;split at hj
  ·rw[Nat.zero_add,<- Array.getElem?_toList];exact hj
  ·cases hj
theorem appw_nil {y:World} {u:Value} {k:List ByteArray} {ty:TypeId} (hs:Wd y u k) (hl:k.length<=1000):∃ p c w',(Builtin.append_ #[24,24] ty #[.slice none 0 0,u]).run Tryz.prog y=.ok (.slice p k.length c) w'/\HRow w' y.heap.size 9 1 (.slice p k.length c) k.length (cellsS k)/\Below y.heap.size y w':=by
 obtain⟨p,c,w',h1,h2,h3⟩:=app_words (y:=y) (base:=y.heap.size) (l:=[]) (ty:=ty) HRow.nil hs (by simp;omega) (Nat.le_refl _);exact⟨p,c,w',h1,h2,below_row (HRow.nil (w:=y) (base:=y.heap.size) (e:=9) (size:=1)) h3 (Nat.le_refl _) (Nat.le_refl _)⟩
theorem appw_lit {y:World} {base:Nat} {v:Value} {l:List ByteArray} {x:ByteArray} {ty m:Nat} (hr:HRow y base 9 1 v l.length (cellsS l)) (hl:l.length<=1000) (hb:base<=y.heap.size) (hm:l.length+1=m):∃ g c w',(Builtin.append_ #[24,24] ty #[v,.slice (some ⟨y.heap.size,0,none⟩) 1 1]).run Tryz.prog (y.alloc (.cells #[.string x] 9))=.ok (.slice (some ⟨g,0,none⟩) m c) w'/\HRow w' base 9 1 (.slice (some ⟨g,0,none⟩) m c) m (cellsS (l++[x]))/\Below base y w':=by
 subst hm;obtain⟨g,cap,w',h1,h2,h3,_⟩:=app_one (ty:=ty) Tryz.underlying24 info9 (by kernel_rfl) (by decide) (by decide) y base hr (by omega) hb #[.string x] rfl (by intro u hu;simp only[List.mem_cons,List.not_mem_nil,or_false] at hu;subst hu;rfl);have e:cellsS (l++[x])=cellsS l++(#[Value.string x]).toList:=(by unfold cellsS;rw[List.map_append];rfl);exact⟨g,cap,w',h1,by rw[e];exact h2,below_row hr h3 (Nat.le_refl _) hb⟩
theorem join_is {p q:List ByteArray} {v:Value} {x:ByteArray} {m:Nat} {W:World} (h:Wd W v p) (hl:p.length<=10) (hq:p++[x]=q) (hm:q.length=m):Calls Tryz.prog 66 #[v,.string x] W fun e w'=>∃ a c,e=.returned (.slice a m c)/\Wd w' (.slice a m c) q/\Below W.heap.size W w':=by
 obtain⟨pa,ca,w1,hrun1,hr1,hb1⟩:=appw_nil (ty:=24) h (by omega);obtain⟨g,cg,w2,hrun2,hr2,hb2⟩:=appw_lit (x:=x) (ty:=24) (m:=m) hr1 (by omega) hb1.size (by rw[<- hm,<- hq,List.length_append];rfl);obtain⟨pv,cv,rfl,_,_⟩:=h.slice;have hw:=hr2.wd;rw[hq] at hw;have HF:=Lib.hid (And.intro hw (hb1.trans hb2));obtain⟨n,hn⟩:∃ n,p.length=n:=⟨_,rfl⟩;rw[hn] at hrun1 hrun2 ⊢;clear h hl hq hm hr1 hb1 hr2 hb2 hw hn;go_enter Tryz.func66,Tryz.ntmps66
 go_wp2_with (first
  | (at_builtin;refine wpList_append_run rfl (.const (.slice none 0 0)) (.tmp 5) 24 rfl rfl rfl hrun1 ?_)
  | (at_builtin;refine wpList_append_run rfl (.tmp 6) (.tmp 8) 24 rfl rfl rfl hrun2 ?_))
 go_ret;exact⟨_,_,rfl,HF.out.1,HF.out.2⟩
theorem size24:(Tryz.prog.info? 24).map (·.size)=some 1:=by kernel_rfl
theorem Kn.one {w w':World} {g:Nat} {cur:Array Value} {m:Nat×Nat} (h:w.grownBy w' (some g)) (hg:w.heap[g]?=some (.cells cur 24 m)):Kn w w':=by
 intro q cu e me hq he;refine (h.block q (lt_of_heap hq) (fun eq=>?_)).trans hq;cases eq;rw[hg] at hq;cases hq;exact he rfl
theorem wsrt_put {out:List (List ByteArray)} (hs:out.Pairwise (fun a b=>cmpP a b<0)) {x:List ByteArray} {a:Nat} (ha:a<=out.length) (hl:∀ h:0<a,cmpP (out[a-1]'(by omega)) x<0) (hr:∀ j (h:j<out.length),a<=j->0<cmpP out[j] x) :
  (out.take a++x::out.drop a).Pairwise (fun a b=>cmpP a b<0):=by
 rw[List.pairwise_append,List.pairwise_cons];have hs':=hs;rw[<- List.take_append_drop a out,List.pairwise_append] at hs'
 have hlt:∀ y∈out.take a,cmpP y x<0:=by
  intro y hy;obtain⟨j,hj,e⟩:=List.getElem_of_mem hy;rw[List.length_take] at hj;rw[List.getElem_take] at e;have h0:=hl (by omega);by_cases hja:j=a-1
  ·subst hja;rw[<- e];exact h0
  ·have h1:=List.pairwise_iff_getElem.1 hs j (a-1) (by omega) (by omega) (by omega);rw[<- e];have h2:=cmpP_trans (a:=out[j]) (b:=out[a-1]) (c:=x) (by omega) (by omega);rcases Int.lt_or_eq_of_le h2 with h3|h3
   ·exact h3
   ·rw[cmpP_zero] at h3;rw[h3] at h1
    have:=cmpP_swap x out[a-1]
    omega
 have hrt:∀ y∈out.drop a,cmpP x y<0:=by
  intro y hy;obtain⟨j,hj,e⟩:=List.getElem_of_mem hy;rw[List.length_drop] at hj;rw[List.getElem_drop] at e;rw[<- e]
  have:=hr (a+j) (by omega) (by omega)
  have h2:=cmpP_swap x out[a+j];omega
 refine⟨hs'.1,⟨hrt,hs'.2.1⟩,fun y hy z hz=>?_⟩;rcases List.mem_cons.1 hz with rfl|hz
 ·exact hlt y hy
 ·exact hs'.2.2 y hy z hz
theorem wperm_put {out:List (List ByteArray)} {x:List ByteArray} {a:Nat}:(out.take a++x::out.drop a).Perm (x::out):=by
 have:=List.perm_middle (a:=x) (l₁:=out.take a) (l₂:=out.drop a)
 rwa [List.take_append_drop] at this
def SortedOf (ps:List (List ByteArray)) (W:World) (e:Ending) (w':World):Prop:=∃ p m c us qs,e=.returned (.slice p m c)/\m=qs.length/\PR W.heap.size (.slice p m c) us qs w'/\qs.Perm ps/\qs.Pairwise (fun a b=>cmpP a b<0)/\Below W.heap.size W w'
theorem sorted_any {B:Nat} {lv:Value} {vs:List Value} {ps:List (List ByteArray)} {W:World} (h:PR B lv vs ps W) (hnd:ps.Nodup) (hl:ps.length<=100000):Calls Tryz.prog 67 #[lv] W (SortedOf ps W):=by
 obtain⟨pl,cl,rfl,hcl,hml⟩:=h.row.isslice;obtain⟨n,hn⟩:∃ n,ps.length=n:=⟨_,rfl⟩;obtain⟨S,hS⟩:∃ S,W.heap.size=S:=⟨_,rfl⟩;unfold maxLen at hml;rw[hn] at h hcl hl ⊢;have HP:=Lib.hid (And.intro h (And.intro hnd hn));have HS:=Lib.hid hS;clear h hnd hn hS;go_enter Tryz.func67,Tryz.ntmps67;go_wp2_with fail;go_loopg [3,4] (n+1) (fun gh ov kv w=>∃ (i m:Nat) (po:Option Addr) (co:Nat) (us:List Value) (sq:List (List ByteArray)),i<=n/\n+1<=i+gh/\kv=.int .i64 (i:Int)/\ov=.slice po m co/\m=sq.length/\PR S (.slice po m co) us sq w/\sq.Perm (ps.take i)/\sq.Pairwise (fun a b=>cmpP a b<0)/\Below S W w)
 case atStart=>exact⟨0,0,none,0,[],[],Nat.zero_le _,by omega,rfl,rfl,rfl,PR.nil _ _,List.Perm.refl _,List.Pairwise.nil,HS.out▸Below.refl _ W⟩
 case round =>
  obtain⟨i,m,po,co,us,sq,hin,hig,rfl,rfl,hm,hR,hpm,hso,hbel⟩:=hrel;obtain⟨w1,rfl⟩:∃ w1,w1=wr:=⟨_,rfl⟩;have hmi:m<=i:=(by rw[hm,hpm.length_eq,List.length_take];omega);obtain⟨po',co',eo,hco,hmo⟩:=hR.row.isslice;obtain⟨-,-,rfl⟩:=Value.slice.inj eo;rw[<- hm] at hco;unfold maxLen at hmo;by_cases hlt:i<n
  ·have hil:i<ps.length:=(by rw[HP.out.2.2];exact hlt);obtain⟨gl,cl',e1,_,_⟩:=HP.out.1.row.slice (by omega);obtain⟨rfl,-,rfl⟩:=Value.slice.inj e1;have hL:=(fun w (hb:Below S W w)=>PR.elem (HP.out.1.on (HS.out▸hb)) hil);obtain⟨x,hx⟩:∃ x,ps[i]=x:=⟨_,rfl⟩;rw[hx] at hL;obtain⟨px,cx,hcx,hwx,hgl⟩:=hL _ hbel;obtain⟨lx,hlx⟩:∃ k,x.length=k:=⟨_,rfl⟩;rw[hlx] at hcx hwx;have htk:ps.take (i+1)=ps.take i++[x]:=by rw[List.take_succ_eq_append_getElem hil,hx]
   have hxn:x ∉ sq:=fun hmem=>by
    rw[hpm.mem_iff] at hmem;have hd:=HP.out.2.1;rw[<- List.take_append_drop (i+1) ps,htk] at hd;have hd2:=(List.nodup_append.1 hd).1;rw[List.nodup_append] at hd2;exact hd2.2.2 x hmem x (by simp) rfl
   have HX:=Lib.hid (And.intro hcx (And.intro hwx (And.intro hgl (And.intro htk (And.intro hxn (And.intro hm (And.intro hpm (And.intro hso hbel))))))));have HR:=Lib.hid hR;have hin2:(i:Int)<(n:Int):=(by omega);have hSw:S<=w1.heap.size:=HS.out▸hbel.size;have HSW:=Lib.hid hSw;clear hL hcx hwx hgl htk hxn hm hpm hso hbel hR eo e1 hx hlx hSw hil
   go_upto_block 2 with fail
   go_cut [5] from 14 to 30 (fun av wx=>∃ a:Nat,a<=m/\av=.int .i64 (a:Int)/\(∀ j (h:j<sq.length),a<=j->0<cmpP sq[j] x)/\(∀ h:0<a/\a<=sq.length,cmpP (sq[a-1]'(by omega)) x<=0)/\Below w1.heap.size w1 wx)
   case first =>
    go_wp2_with fail;go_loopg [5] (m+1) (fun kk av w=>∃ a:Nat,a<=m/\a+1<=kk/\av=.int .i64 (a:Int)/\(∀ j (h:j<sq.length),a<=j->0<cmpP sq[j] x)/\Below w1.heap.size w1 w)
    case atStart=>exact⟨m,Nat.le_refl _,Nat.le_refl _,rfl,fun j h hj=>by have:=HX.out.2.2.2.2.2.1;omega,Below.refl _ _⟩
    case round =>
     obtain⟨a,ham,hak,rfl,hhi,hB⟩:=hrel;have hRw:=HR.out.on hB;have hlx:∀ w,Below w1.heap.size w1 w->w.cell? ⟨gl,i,none⟩=some (.slice px lx cx):=(fun w hb=>bel_cell hb HX.out.1);have HLX:=Lib.hid hlx;have hxw:∀ w,Below w1.heap.size w1 w->Wd w (.slice px lx cx) x:=(fun w hb=>HX.out.2.1.later hb);have HXW:=Lib.hid hxw;clear hlx hxw;rcases Nat.eq_zero_or_pos a with ha0|ha0
     ·have hd0:decide ((0:Int)<(a:Int))=false:=decide_eq_false (by omega);have hd1:decide (0<a)=false:=decide_eq_false (by omega);have HB:=Lib.hid (And.intro hB (And.intro hhi ha0));clear hB hhi hRw ha0;go_upto_region 6 with fail;refine Par.wp_region_par 15 [.int .i64 a,.bool false,.bool false,undef,undef,undef,undef,undef,undef,undef,undef,undef,undef,undef,.bool false] (fun w=>Below w1.heap.size w1 w) ?A1 ?hm1 ?hB1 ?hA1 (HB.out.1.drew) ?hop1 ?hT1
      case hm1=>kernel_rfl
      case hB1=>kernel_rfl
      case hA1 =>
       simp only[Par.putA,Par.dstAt,Act.put,List.getElem?_toArray,List.getElem?_cons_zero,List.getElem?_cons_succ,Option.bind_some,List.setIfInBounds_toArray,List.set_cons_zero,List.set_cons_succ,List.getD_cons_zero,List.getD_cons_succ];rfl
      case hop1 =>
       simp only[List.take_succ_cons,List.take_zero,Par.GiveAll,and_true];and_intros<;>intro w' hR
       ·have HR:=Lib.hid hR;clear hR;simp only[Par.Gives];go_simp;all_goals exact HR.out
       ·have HR:=Lib.hid hR;clear hR;simp only[Par.Gives];go_simp;all_goals exact HR.out
       ·have HR:=Lib.hid hR;clear hR;simp only[Par.Gives];go_simp;all_goals exact HR.out
       ·have HR:=Lib.hid hR;clear hR;simp only[Par.Gives];go_simp;all_goals exact HR.out
       ·have HR:=Lib.hid hR;clear hR;simp only[Par.Gives];go_simp;all_goals exact HR.out
       ·have HR:=Lib.hid hR;clear hR;simp only[Par.Gives];go_simp;all_goals exact HR.out
       ·have HR:=Lib.hid hR;clear hR;simp only[Par.Gives];go_simp;all_goals exact HR.out
       ·have HR:=Lib.hid hR;clear hR;simp only[Par.Gives];go_simp;all_goals exact HR.out
       ·have HR:=Lib.hid hR;clear hR;simp only[Par.Gives];go_simp;all_goals exact HR.out
       ·have HR:=Lib.hid hR;clear hR;simp only[Par.Gives];go_simp;all_goals exact HR.out
       ·have HR:=Lib.hid hR;clear hR;simp only[Par.Gives];go_simp;all_goals exact HR.out
       ·have HR:=Lib.hid hR;clear hR;simp only[Par.Gives];go_simp;all_goals exact HR.out
       ·have HR:=Lib.hid hR;clear hR;simp only[Par.Gives];go_simp;all_goals exact HR.out
       ·have HR:=Lib.hid hR;clear hR;simp only[Par.Gives];go_simp;all_goals exact HR.out
       ·have HR:=Lib.hid hR;clear hR;simp only[Par.Gives];go_simp;all_goals exact HR.out
      case hT1 =>
       intro w' hR;simp only[List.drop_succ_cons,List.drop_nil];have HB2:=Lib.hid hR;clear hR;go_wp2_with fail;go_meet;exact⟨a,ham,rfl,HB.out.2.1,fun h=>by have:=HB.out.2.2;omega,HB2.out⟩
     ·obtain⟨a',rfl⟩:∃ a',a=a'+1:=⟨a-1,by omega⟩;have hal:a'<sq.length:=(by have:=HX.out.2.2.2.2.2.1;omega);obtain⟨go,co'',e2,_,_⟩:=hRw.row.slice (by omega);obtain⟨rfl,-,-⟩:=Value.slice.inj e2;obtain⟨pq,cq,hcq,hwq,hgo⟩:=PR.elem HR.out hal;obtain⟨y,hy⟩:∃ y,sq[a']=y:=⟨_,rfl⟩;rw[hy] at hcq hwq;obtain⟨ly,hly⟩:∃ k,y.length=k:=⟨_,rfl⟩;rw[hly] at hcq hwq;have HQ:Hid (∀ w,Below w1.heap.size w1 w->w.cell? ⟨go,a',none⟩=some (.slice pq ly cq)/\Wd w (.slice pq ly cq) y):=Lib.hid (fun w hb=>⟨bel_cell hb hcq,hwq.later hb⟩);obtain⟨z,hz⟩:∃ z,cmpP y x=z:=⟨_,rfl⟩;have HC:Hid (∀ w,Below w1.heap.size w1 w->Calls Tryz.prog 96 #[.slice pq ly cq,.slice px lx cx] w fun e w'=>e=.returned (.int .i64 z)/\Below w.heap.size w w'):=Lib.hid (fun w hb=>hz▸rcmp_any (HQ.out w hb).2.rd (HXW.out w hb).rd);have HY:=Lib.hid (And.intro hy hz);have HB:=Lib.hid (And.intro hB hhi);have hao:(a':Int)<(m:Int):=(by omega);have hwa:IntKind.i64.wrap (a':Int)=(a':Int):=(by rw[IntKind.wrap_i64];omega);have hd1:decide (0<a'+1)=true:=decide_eq_true (by omega);have hd2:decide ((0:Int)<(a':Int)+1)=true:=decide_eq_true (by omega);clear hB hhi hRw e2 hcq hwq hgo hy hly hz;go_upto_region 6 with fail;refine Par.wp_region_par 15 [.int .i64 ((a':Int)+1),.bool true,.bool true,.slice (some ⟨go,0,none⟩) m co,.int .i64 ((a':Int)+1),.int .i64 a',(Value.pointer (some ⟨go,a',none⟩)),.slice pq ly cq,.slice (some ⟨gl,0,none⟩) n cl,.int .i64 i,(Value.pointer (some ⟨gl,i,none⟩)),.slice px lx cx,.int .i64 z,.bool (decide (0<z)),.bool (decide (0<z))] (fun w=>Below w1.heap.size w1 w) ?A2 ?hm2 ?hB2 ?hA2 (HB.out.1.drew) ?hop2 ?hT2
      case hm2=>kernel_rfl
      case hB2=>kernel_rfl
      case hA2 =>
       simp only[Par.putA,Par.dstAt,Act.put,List.getElem?_toArray,List.getElem?_cons_zero,List.getElem?_cons_succ,Option.bind_some,List.setIfInBounds_toArray,List.set_cons_zero,List.set_cons_succ,List.getD_cons_zero,List.getD_cons_succ];rfl
      case hop2 =>
       simp only[List.take_succ_cons,List.take_zero,Par.GiveAll,and_true];and_intros<;>intro w' hR
       ·have HR:=Lib.hid hR;clear hR;simp only[Par.Gives];go_simp;all_goals exact HR.out
       ·have HR:=Lib.hid hR;clear hR;simp only[Par.Gives];go_simp;all_goals exact HR.out
       ·have HR:=Lib.hid hR;clear hR;simp only[Par.Gives];go_simp;all_goals exact HR.out
       ·have HR:=Lib.hid hR;clear hR;simp only[Par.Gives];go_simp;all_goals exact HR.out
       ·have HR:=Lib.hid hR;clear hR;simp only[Par.Gives];go_simp;all_goals exact HR.out
       ·have HR:=Lib.hid hR;clear hR;simp only[Par.Gives];go_simp;all_goals exact HR.out
       ·have HR:=Lib.hid hR;clear hR;simp only[Par.Gives];go_simp;all_goals exact HR.out
       ·have HR:=Lib.hid hR;have k:=(HQ.out w' hR).1;clear hR;simp only[Par.Gives];go_simp;all_goals exact HR.out
       ·have HR:=Lib.hid hR;clear hR;simp only[Par.Gives];go_simp;all_goals exact HR.out
       ·have HR:=Lib.hid hR;clear hR;simp only[Par.Gives];go_simp;all_goals exact HR.out
       ·have HR:=Lib.hid hR;clear hR;simp only[Par.Gives];go_simp;all_goals exact HR.out
       ·have HR:=Lib.hid hR;have k:=HLX.out w' hR;clear hR;simp only[Par.Gives];go_simp;all_goals exact HR.out
       ·have HR:=Lib.hid hR;clear hR;simp only[Par.Gives];go_simp;exact (HC.out _ HR.out).mono (fun e w'' ⟨he,hb⟩=>⟨he,below_on HR.out hb⟩)
       ·have HR:=Lib.hid hR;clear hR;simp only[Par.Gives];go_simp;all_goals exact HR.out
       ·have HR:=Lib.hid hR;clear hR;simp only[Par.Gives];go_simp;all_goals exact HR.out
      case hT2 =>
       intro w' hR;simp only[List.drop_succ_cons,List.drop_nil];have HB2:=Lib.hid hR;clear hR;by_cases hz0:0<z
       ·have hz1:decide (0<z)=true:=decide_eq_true hz0;go_wp2_with fail;go_roundg (a'+1)
        case measure=>omega
        case rel=>exact⟨a',by omega,by omega,by go_num,fun j h hj=>by
         by_cases e:j=a'
         ·subst e;rw[HY.out.1,HY.out.2];exact hz0
         ·exact HB.out.2 j h (by omega),HB2.out⟩
       ·have hz1:decide (0<z)=false:=decide_eq_false hz0;go_wp2_with fail;go_meet;exact⟨a'+1,ham,rfl,HB.out.2,fun h=>by simp only[Nat.add_sub_cancel];rw[HY.out.1,HY.out.2];omega,HB2.out⟩
   case rest =>
    obtain⟨a,ham,rfl,hhi,hge,hB⟩:=hcut;obtain⟨w2,rfl⟩:∃ w2,w2=wc:=⟨_,rfl⟩
    have hlt':∀ h:0<a/\a<=sq.length,cmpP (sq[a-1]'(by omega)) x<0:=fun h=>by
     have h1:=hge h;have h2:cmpP (sq[a-1]'(by omega)) x≠0:=(fun e=>HX.out.2.2.2.2.1 (by rw[<- cmpP_zero.1 e];exact List.getElem_mem _));omega
    have hput:(sq.take a++x::sq.drop a).Pairwise (fun a b=>cmpP a b<0):=wsrt_put HX.out.2.2.2.2.2.2.2.1 (by have:=HX.out.2.2.2.2.2.1;omega) (fun h=>hlt' ⟨h,by have:=HX.out.2.2.2.2.2.1;omega⟩) hhi;have HB:=Lib.hid (And.intro hB (And.intro hput hlt'));have HXW:Hid (∀ w,Below w1.heap.size w1 w->w.cell? ⟨gl,i,none⟩=some (.slice px lx cx)/\Wd w (.slice px lx cx) x):=Lib.hid (fun w hb=>⟨bel_cell hb HX.out.1,HX.out.2.1.later hb⟩);clear hhi hge hB hlt' hput;go_upto_region 8 with fail
    go_cut [44] from 31 to 44 (fun cv wx=>cv=.bool false/\Below w1.heap.size w1 wx)
    case first =>
     rcases Nat.eq_zero_or_pos a with ha0|ha0
     ·have hd0:decide ((0:Int)<(a:Int))=false:=decide_eq_false (by omega);have hd1:decide (0<a)=false:=decide_eq_false (by omega);have HA0:=Lib.hid ha0;clear ha0;go_upto_region 8 with fail;refine Par.wp_region_par 14 [.int .i64 a,.bool false,.bool false,undef,undef,undef,undef,undef,undef,undef,undef,undef,undef,.bool false] (fun w=>Below w1.heap.size w1 w) ?A3 ?hm3 ?hB3 ?hA3 (HB.out.1.drew) ?hop3 ?hT3
      case hm3=>kernel_rfl
      case hB3=>kernel_rfl
      case hA3 =>
       simp only[Par.putA,Par.dstAt,Act.put,List.getElem?_toArray,List.getElem?_cons_zero,List.getElem?_cons_succ,Option.bind_some,List.setIfInBounds_toArray,List.set_cons_zero,List.set_cons_succ,List.getD_cons_zero,List.getD_cons_succ];rfl
      case hop3 =>
       simp only[List.take_succ_cons,List.take_zero,Par.GiveAll,and_true];and_intros<;>intro w' hR
       ·have HR:=Lib.hid hR;clear hR;simp only[Par.Gives];go_simp;all_goals exact HR.out
       ·have HR:=Lib.hid hR;clear hR;simp only[Par.Gives];go_simp;all_goals exact HR.out
       ·have HR:=Lib.hid hR;clear hR;simp only[Par.Gives];go_simp;all_goals exact HR.out
       ·have HR:=Lib.hid hR;clear hR;simp only[Par.Gives];go_simp;all_goals exact HR.out
       ·have HR:=Lib.hid hR;clear hR;simp only[Par.Gives];go_simp;all_goals exact HR.out
       ·have HR:=Lib.hid hR;clear hR;simp only[Par.Gives];go_simp;all_goals exact HR.out
       ·have HR:=Lib.hid hR;clear hR;simp only[Par.Gives];go_simp;all_goals exact HR.out
       ·have HR:=Lib.hid hR;clear hR;simp only[Par.Gives];go_simp;all_goals exact HR.out
       ·have HR:=Lib.hid hR;clear hR;simp only[Par.Gives];go_simp;all_goals exact HR.out
       ·have HR:=Lib.hid hR;clear hR;simp only[Par.Gives];go_simp;all_goals exact HR.out
       ·have HR:=Lib.hid hR;clear hR;simp only[Par.Gives];go_simp;all_goals exact HR.out
       ·have HR:=Lib.hid hR;clear hR;simp only[Par.Gives];go_simp;all_goals exact HR.out
       ·have HR:=Lib.hid hR;clear hR;simp only[Par.Gives];go_simp;all_goals exact HR.out
       ·have HR:=Lib.hid hR;clear hR;simp only[Par.Gives];go_simp;all_goals exact HR.out
      case hT3 =>
       intro w' hR;simp only[List.drop_succ_cons,List.drop_nil];have HB2:=Lib.hid hR;clear hR;go_wp2_with fail;go_meet;exact⟨rfl,HB2.out⟩
     ·obtain⟨a',rfl⟩:∃ a',a=a'+1:=⟨a-1,by omega⟩;have hal:a'<sq.length:=(by have:=HX.out.2.2.2.2.2.1;omega);obtain⟨go,co'',e2,_,_⟩:=HR.out.row.slice (by omega);obtain⟨rfl,-,-⟩:=Value.slice.inj e2;obtain⟨pq,cq,hcq,hwq,hgo⟩:=PR.elem HR.out hal;have hyx:cmpP sq[a'] x<0:=HB.out.2.2 ⟨by omega,hal⟩;obtain⟨y,hy⟩:∃ y,sq[a']=y:=⟨_,rfl⟩;rw[hy] at hcq hwq hyx;obtain⟨ly,hly⟩:∃ k,y.length=k:=⟨_,rfl⟩;rw[hly] at hcq hwq;have HQ:Hid (∀ w,Below w1.heap.size w1 w->w.cell? ⟨go,a',none⟩=some (.slice pq ly cq)/\Wd w (.slice pq ly cq) y):=Lib.hid (fun w hb=>⟨bel_cell hb hcq,hwq.later hb⟩);have hz:decide (cmpP y x=0)=false:=decide_eq_false (by omega);have HC:Hid (∀ w,Below w1.heap.size w1 w->Calls Tryz.prog 97 #[.slice pq ly cq,.slice px lx cx] w fun e w'=>e=.returned (.bool false)/\Below w.heap.size w w'):=Lib.hid (fun w hb=>hz▸reqP_any (HQ.out w hb).2.rd (HXW.out w hb).2.rd);have hao:(a':Int)<(m:Int):=(by omega);have hwa:IntKind.i64.wrap (a':Int)=(a':Int):=(by rw[IntKind.wrap_i64];omega);have hd1:decide (0<a'+1)=true:=decide_eq_true (by omega);have hd2:decide ((0:Int)<(a':Int)+1)=true:=decide_eq_true (by omega);clear e2 hcq hwq hgo hy hly hz hyx;go_upto_region 8 with fail;refine Par.wp_region_par 14 [.int .i64 ((a':Int)+1),.bool true,.bool true,.slice (some ⟨go,0,none⟩) m co,.int .i64 ((a':Int)+1),.int .i64 a',(Value.pointer (some ⟨go,a',none⟩)),.slice pq ly cq,.slice (some ⟨gl,0,none⟩) n cl,.int .i64 i,(Value.pointer (some ⟨gl,i,none⟩)),.slice px lx cx,.bool false,.bool false] (fun w=>Below w1.heap.size w1 w) ?A4 ?hm4 ?hB4 ?hA4 (HB.out.1.drew) ?hop4 ?hT4
      case hm4=>kernel_rfl
      case hB4=>kernel_rfl
      case hA4 =>
       simp only[Par.putA,Par.dstAt,Act.put,List.getElem?_toArray,List.getElem?_cons_zero,List.getElem?_cons_succ,Option.bind_some,List.setIfInBounds_toArray,List.set_cons_zero,List.set_cons_succ,List.getD_cons_zero,List.getD_cons_succ];rfl
      case hop4 =>
       simp only[List.take_succ_cons,List.take_zero,Par.GiveAll,and_true];and_intros<;>intro w' hR
       ·have HR:=Lib.hid hR;clear hR;simp only[Par.Gives];go_simp;all_goals exact HR.out
       ·have HR:=Lib.hid hR;clear hR;simp only[Par.Gives];go_simp;all_goals exact HR.out
       ·have HR:=Lib.hid hR;clear hR;simp only[Par.Gives];go_simp;all_goals exact HR.out
       ·have HR:=Lib.hid hR;clear hR;simp only[Par.Gives];go_simp;all_goals exact HR.out
       ·have HR:=Lib.hid hR;clear hR;simp only[Par.Gives];go_simp;all_goals exact HR.out
       ·have HR:=Lib.hid hR;clear hR;simp only[Par.Gives];go_simp;all_goals exact HR.out
       ·have HR:=Lib.hid hR;clear hR;simp only[Par.Gives];go_simp;all_goals exact HR.out
       ·have HR:=Lib.hid hR;have k:=(HQ.out w' hR).1;clear hR;simp only[Par.Gives];go_simp;all_goals exact HR.out
       ·have HR:=Lib.hid hR;clear hR;simp only[Par.Gives];go_simp;all_goals exact HR.out
       ·have HR:=Lib.hid hR;clear hR;simp only[Par.Gives];go_simp;all_goals exact HR.out
       ·have HR:=Lib.hid hR;clear hR;simp only[Par.Gives];go_simp;all_goals exact HR.out
       ·have HR:=Lib.hid hR;have k:=(HXW.out w' hR).1;clear hR;simp only[Par.Gives];go_simp;all_goals exact HR.out
       ·have HR:=Lib.hid hR;clear hR;simp only[Par.Gives];go_simp;exact (HC.out _ HR.out).mono (fun e w'' ⟨he,hb⟩=>⟨he,below_on HR.out hb⟩)
       ·have HR:=Lib.hid hR;clear hR;simp only[Par.Gives];go_simp;all_goals exact HR.out
      case hT4 =>
       intro w' hR;simp only[List.drop_succ_cons,List.drop_nil];have HB2:=Lib.hid hR;clear hR;go_wp2_with fail;go_meet;exact⟨rfl,HB2.out⟩
    case rest =>
     obtain⟨rfl,hB⟩:=hcut;obtain⟨w3,rfl⟩:∃ w3,w3=wc:=⟨_,rfl⟩;have HB3:=Lib.hid hB;clear hB;have hsz3:S<=w3.heap.size:=Nat.le_trans HSW.out HB3.out.size;have hR3:=HR.out.on HB3.out;obtain⟨L,hL1,hL2⟩:=hR3.list;have hLl:L.length=m:=(by rw[HX.out.2.2.2.2.2.1,<- hL2,List.length_map]);have hrow3:HRow w3 S 24 1 (.slice po m co) m us:=(by have:=hR3.row;rw[<- HX.out.2.2.2.2.2.1] at this;exact this);obtain⟨g,cap',w4,hrun,r4,g4,o4⟩:=app_one (ty:=53) Tryz.underlying53 infoP24 (by kernel_rfl) (by decide) (by decide) w3 S hrow3 (by omega) hsz3 #[.slice none 0 0] rfl (by intro u hu;simp only[List.mem_cons,List.not_mem_nil,or_false] at hu;subst hu;rfl);have hk4:=Kn.grown hrow3 g4;have hb4:Below S w3 w4:=below_row hrow3 g4 (Nat.le_refl _) hsz3;obtain⟨cur,hmg,hgc,hcc,_,hcs,_⟩:=r4.form;have hs24:=size24;obtain⟨a1,ha1⟩:∃ a1:Nat,a1=a+1:=⟨_,rfl⟩;have hwa:IntKind.i64.wrap ((a:Int)+1)=(a1:Int):=(by rw[ha1,IntKind.wrap_i64];omega);have hq0:(a:Int)<=(m:Int)+1:=(by omega);have hq1:(a1:Int)<=(m:Int)+1:=(by omega);have hq3:(a:Int)<(m:Int)+1:=(by omega);have hn0:cap'≠a:=(by omega);have hul:us.length=m:=(by have:=hrow3.1;omega);obtain⟨Mv,hM1,hM2,r5⟩:=row_movedW (w:=w4.drew) hul ham cur r4 hgc (.slice px lx cx);have hms:=row_srcW r4 a;have hcn:(us.drop a).length=Nat.min (m+1-a) (m+1-a1)*1:=(by have h:=Nat.min_eq_right (show m+1-a1<=m+1-a by omega);show _=min (m+1-a) (m+1-a1)*1;rw[List.length_drop,hul,h];omega);rw[<- ha1,List.append_assoc] at r5;have hfit:a1+(us.drop a).length<=cur.size:=(by rw[List.length_drop,hul];omega);have hone:∀ u∈us.drop a,u.oneCell'=true:=(fun u hu=>hR3.one u (List.mem_of_mem_drop hu));have hgS:gl<S:=HS.out▸(HP.out.1.row.lt gl rfl).2;have hcl4:w4.cell? ⟨gl,i,none⟩=some (.slice px lx cx):=(World.cell?_of_block (w:=w3) (hb4.block gl hgS)).trans (HXW.out w3 HB3.out).1
     have HF:Hid (∀ w5,HRow w5 S 24 1 (.slice (some ⟨g,0,none⟩) (m+1) cap') (m+1) Mv->w4.grownBy w5 (some g)->w5.cell? ⟨gl,i,none⟩=some (.slice px lx cx)/\(∃ z,w5.cell? ⟨g,a,none⟩=some z)/\w5.frozen? ⟨g,a,none⟩=false/\PR S (.slice (some ⟨g,0,none⟩) (m+1) cap') ((L.take a++⟨.slice px lx cx,x,(HXW.out w3 HB3.out).2⟩::L.drop a).map SV.v) (sq.take a++x::sq.drop a) (w5.setCell ⟨g,a,none⟩ (.slice px lx cx))/\Below S W (w5.setCell ⟨g,a,none⟩ (.slice px lx cx))):=Lib.hid (fun w5 h5 hg5=>by
      obtain⟨r6,g6⟩:=h5.stored a (.slice px lx cx);have hk5:Kn w4 w5:=Kn.one hg5 hgc;obtain⟨cur5,_,hgc5,_⟩:=h5.form;have hk6:Kn w5 (w5.setCell ⟨g,a,none⟩ (.slice px lx cx)):=Kn.one g6 hgc5;have hb5:Below S w4 w5:=grown_below hg5 (fun q hq=>by cases hq;exact hmg) (Nat.le_trans hsz3 hb4.size);have hb6:Below S w5 (w5.setCell ⟨g,a,none⟩ (.slice px lx cx)):=grown_below g6 (fun q hq=>by cases hq;exact hmg) (Nat.le_trans hsz3 (Nat.le_trans hb4.size hb5.size));refine⟨(World.cell?_of_block (w:=w4) (hg5.block gl (Nat.lt_of_lt_of_le hgS (Nat.le_trans hsz3 hb4.size)) (fun e=>by cases e;omega))).trans hcl4,⟨_,h5.cell (List.getElem?_eq_getElem (by omega))⟩,h5.frozenAt a,?_,(((HX.out.2.2.2.2.2.2.2.2.trans (HB3.out.mono HSW.out)).trans hb4).trans hb5).trans hb6⟩;have hmap:(L.take a++⟨.slice px lx cx,x,(HXW.out w3 HB3.out).2⟩::L.drop a).map SV.l=sq.take a++x::sq.drop a:=(by rw[List.map_append,List.map_cons,List.map_take,List.map_drop,hL2]);have hmav:(L.take a++⟨.slice px lx cx,x,(HXW.out w3 HB3.out).2⟩::L.drop a).map SV.v=Mv.set a (.slice px lx cx):=(by rw[hM2,List.map_append,List.map_cons,List.map_take,List.map_drop,hL1]);have hlen:(L.take a++(⟨.slice px lx cx,x,(HXW.out w3 HB3.out).2⟩:SV w3)::L.drop a).length=m+1:=(by rw[List.length_append,List.length_cons,List.length_take,List.length_drop,hLl];omega);rw[<- hmap];exact PR.of_list _ (by rw[hlen,hmav];exact r6) ((hk4.trans hk5).trans hk6).kp9)
     have HM:=Lib.hid (And.intro hM1 (And.intro hM2 (And.intro hcn hul)));obtain⟨D,hD⟩:∃ D,us.drop a=D:=⟨_,rfl⟩;rw[hD] at r5 hms hfit hone;have hcn':D.length=Nat.min (m+1-a) (m+1-a1)*1:=(by rw[<- hD];exact hcn);have HD:=Lib.hid (And.intro hD (And.intro hcn' ha1));have HG:=Lib.hid (And.intro hmg hgc);clear hD hcn hcn' hM1 hM2 hul ha1 hR3 hL1 hL2 hrow3 g4 o4 hk4 hb4 hcl4 hgS;go_upto_region 10 with (at_builtin;refine wpList_append_run rfl (.tmp 45) (.tmp 46) 53 rfl rfl rfl hrun ?_);by_cases hn1:cap'=a1
     ·have hD0:D=[]:=(by rw[<- HD.out.1];exact List.drop_eq_nil_of_le (by rw[HM.out.2.2.2];have:=HD.out.2.2;omega));rw[hD0,List.nil_append,List.length_nil,Nat.add_zero,List.take_append_drop,Array.toArray_toList] at r5;subst hn1
      go_region_law? (refine step_copy_sized rfl (.tmp 51) (.tmp 54) 53 53 rfl 24 1 Tryz.underlying53 hs24 0 (cap' - cap') (m+1-a) (cap' - a) g 0 ⟨g,a,none⟩ (by simp[Act.eval,Act.put]) (by simp[Act.eval,Act.put]) cur 24 hgc [] (by have h:=Nat.min_zero (m+1-a);show _=min (m+1-a) 0*1;rw[h];rfl) (by intro j u hj;simp at hj) (by simp) (by intro u hu;simp at hu) ?_)
      ·obtain⟨w5,hw5⟩:∃ w5,w5=w4.drew.setRow g cur:=⟨_,rfl⟩;have gs:w4.grownBy (w4.drew.setRow g cur) (some g):=grown_setRow w4 g _;rw[<- hw5] at r5 gs ⊢;clear hw5;obtain⟨hc5,⟨z0,hz0⟩,f0,hP6,hb6⟩:=HF.out w5 r5 gs;have HP6:=Lib.hid (And.intro hP6 hb6);have gl5:=World.block_lt_of_cell? _ _ hz0;have gl6:=World.block_lt_of_cell? _ _ hc5;clear hP6 hb6 r5 gs;go_wp2_with fail;have hle:m+1=(sq.take a++x::sq.drop a).length:=(by rw[List.length_append,List.length_cons,List.length_take,List.length_drop,<- HX.out.2.2.2.2.2.1];omega);go_roundg (n-i)
       case measure=>omega
       case rel=>exact⟨i+1,m+1,_,_,_,sq.take a++x::sq.drop a,by omega,by omega,by go_num,rfl,hle,HP6.out.1,by
        rw[HX.out.2.2.2.1];exact wperm_put.trans ((List.Perm.cons x HX.out.2.2.2.2.2.2.1).trans (List.perm_append_comm (l₁:=[x]) (l₂:=ps.take i))),HB.out.2.1,HP6.out.2⟩
     ·go_region_law? (refine step_copy_sized rfl (.tmp 51) (.tmp 54) 53 53 rfl 24 1 Tryz.underlying53 hs24 (m+1-a1) (cap' - a1) (m+1-a) (cap' - a) g a1 ⟨g,a,none⟩ (by simp[Act.eval,Act.put]) (by simp[Act.eval,Act.put]) cur 24 hgc D HD.out.2.1 hms hfit hone ?_)
      ·obtain⟨w5,hw5⟩:∃ w5,w5=w4.drew.setRow g (List.take a1 cur.toList++(D++List.drop (a1+D.length) cur.toList)).toArray:=⟨_,rfl⟩;have gs:w4.grownBy (w4.drew.setRow g (List.take a1 cur.toList++(D++List.drop (a1+D.length) cur.toList)).toArray) (some g):=grown_setRow w4 g _;rw[<- hw5] at r5 gs ⊢;clear hw5;obtain⟨hc5,⟨z0,hz0⟩,f0,hP6,hb6⟩:=HF.out w5 r5 gs;have HP6:=Lib.hid (And.intro hP6 hb6);have gl5:=World.block_lt_of_cell? _ _ hz0;have gl6:=World.block_lt_of_cell? _ _ hc5;clear hP6 hb6 r5 gs;go_wp2_with fail;have hle:m+1=(sq.take a++x::sq.drop a).length:=(by rw[List.length_append,List.length_cons,List.length_take,List.length_drop,<- HX.out.2.2.2.2.2.1];omega);go_roundg (n-i)
       case measure=>omega
       case rel=>exact⟨i+1,m+1,_,_,_,sq.take a++x::sq.drop a,by omega,by omega,by go_num,rfl,hle,HP6.out.1,by
        rw[HX.out.2.2.2.1];exact wperm_put.trans ((List.Perm.cons x HX.out.2.2.2.2.2.2.1).trans (List.perm_append_comm (l₁:=[x]) (l₂:=ps.take i))),HB.out.2.1,HP6.out.2⟩
  ·obtain rfl:i=n:=(by omega);have HM:=Lib.hid hm;clear hm eo;go_wp2_with fail;go_ret;exact⟨_,_,_,us,sq,rfl,HM.out,HS.out▸hR,by have:=hpm;rw[List.take_of_length_le (by rw[HP.out.2.2];exact Nat.le_refl _)] at this;exact this,hso,HS.out▸hbel⟩
end
