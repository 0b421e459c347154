import Derived.Test.YtgbkmjnnlkgpnaaGreatZe45
import Derived.Test.YtgbkmjnnlkgpnaaGreatZe44
import Derived.Test.YtgbkmjnnlkgpnaaGreatZe23
set_option maxHeartbeats 4000000
set_option maxRecDepth 100000
namespace Go.Proofs.YtgbkmjnnlkgpnaaGreat
open Go Go.RowKit Go.Proofs Co Co.S
theorem aDM {u:OpX} (h:F64 u.id):OpOk (eN u):=by
 refine⟨h,?_,?_,fun x hx=>?_,?_⟩
 ·exact Nat.le_trans (uF 20 u.tbl) (by unfold maxLen;omega)
 ·exact Nat.le_trans (uF 20 u.col) (by unfold maxLen;omega)
 ·have hx:x∈(qV 7 u.vals):=hx;unfold qV at hx;have h1:=List.mem_of_mem_take hx;obtain⟨y,_,rfl⟩:=List.mem_map.1 h1;exact Nat.le_trans (uF 20 y.2.2) (by unfold maxLen;omega)
 exact Nat.le_trans (aDv 7 u.vals) (by omega)
theorem aGL {L:List OpX} (h:∀ o∈L,F64 o.id) (M:Nat):∀ o∈(L.take M).map eN,OpOk o:=fun o ho=>by
 obtain⟨u,hu,rfl⟩:=List.mem_map.1 ho;exact aDM (h u (List.mem_of_mem_take hu))
theorem zL {W w:World} {p:Option Addr} {L:List OpX} (h:aDC W p L) (hb:Below W.heap.size W w):aDC w p L:=fun j hj=>by
 obtain⟨b,off,vv,e,hlt,c0,c1,c2,c3,c4,hv,h1,h2,h3⟩:=h j hj;have hk:=hb.block b hlt;have hc:∀ (o:Nat) (v:Value),W.cell? ⟨b,o,none⟩=some v->w.cell? ⟨b,o,none⟩=some v:=(fun o v hv=>(World.cell?_of_block (a:=⟨b,o,none⟩) hk).trans hv);exact⟨b,off,vv,e,Nat.lt_of_lt_of_le hlt hb.size,hc _ _ c0,hc _ _ c1,hc _ _ c2,hc _ _ c3,hc _ _ c4,(hv.later hb).mono (fun q _ hq=>Nat.lt_of_lt_of_le hq hb.size),h1,h2,h3⟩
abbrev Lz:List PT:=List.replicate 4 (0,[])
theorem iC:∀ x∈Lz,SmP 0 x:=fun x hx=>by
 obtain rfl:=List.eq_of_mem_replicate hx;exact⟨Nat.le_refl _,Nat.le_refl _⟩
theorem qA:∀ t∈pre 4,0<t.cols.length/\t.cols.length<=1000:=fun t ht=>⟨(kZ t ht).1,by have:=(kZ t ht).2;omega⟩
structure Rd2 (W:World) (d b:Nat) (ts:List T) (L:List PT):Prop where
 dd:∃ st O,Dd W d ts st O/\st.map (·.2)=L
 nn:∃ tt i O,DbN W b ts tt i O/\tt.map dB=L
section
variable {W:World} {d b:Nat} {L:List PT} {m:Nat}
end
def aO (p:Nat->Bool) (n:Nat):Option Nat:=(List.range n).find? p
theorem aZ {p:Nat->Bool} {n:Nat} (h:∀ j,j<n->p j=false):aO p n=none:=by
 unfold aO;rw[List.find?_eq_none];intro j hj;rw[h j (List.mem_range.1 hj)];decide
theorem bM {p:Nat->Bool} {n k:Nat} (hk:k<n) (h:p k=true) (h0:∀ j,j<k->p j=false):aO p n=some k:=by
 unfold aO;rw[List.find?_range_eq_some];exact⟨h,List.mem_range.2 hk,fun j hj=>by rw[h0 j hj];rfl⟩
theorem gX {p:Nat->Bool} {n k:Nat} (h:aO p n=some k):k<n/\p k=true/\∀ j,j<k->p j=false:=by
 unfold aO at h;rw[List.find?_range_eq_some] at h;obtain⟨h1,h2,h3⟩:=h;exact⟨List.mem_range.1 h2,h1,fun j hj=>by simpa using h3 j hj⟩
def aBY (t:T) (x:ByteArray) (r:List T3):T3:=r.getD (ixC t.cols x).toNat z3
def aP (t:T) (x:ByteArray) (a b:List T3):Bool:=decide (aBY t x a=aBY t x b)
def cAt (t:T) (k:Nat):C:=t.cols.getD k ⟨e0,0,false,e0⟩
def cN (t:T) (r:List T3) (k:Nat):Bool:=(cAt t k).mu&&decide ((r.getD k z3).1=0)
def fO (t:T) (r:List T3) (B:List (List T3)):Bool:=decide (t.key≠e0)&&B.any (fun a=>aP t t.key r a)
def eO (ts:List T) (As:List (List R1)) (t:T) (r:List T3) (k:Nat):Bool:=decide ((cAt t k).tgt≠e0)&&(decide ((r.getD k z3).1≠0)&&(aX ts As (cAt t k).tgt (r.getD k z3)).isNone)
def cC (t:T) (d:D) (r:List T3) (B:List (List T3)):Bool:=B.any (fun a=>d.left.all (fun x=>aP t x r a)&&!aP t d.right r a)
def dG (ts:List T) (As:List (List R1)) (t:T) (r:List T3) (B:List (List T3)):Int×ByteArray :=
 match aO (cN t r) t.cols.length with
 | some k=>(7,(cAt t k).nm)
 | none=>if fO t r B=true then (8,t.key) else
  match aO (eO ts As t r) t.cols.length with
  | some k=>(9,(cAt t k).nm)
  | none=>match aO (fun k=>cC t (t.deps.getD k ⟨[],e0⟩) r B) t.deps.length with
   | some k=>(10,(t.deps.getD k ⟨[],e0⟩).right)
   | none=>(0,e0)
def bN (A:List R1) (i:Nat):List (List T3):=(A.take i).map (·.2)
def rowAt (A:List R1) (i:Nat):R1:=A.getD i (0,[])
def firstT (l:List T3) (i:Nat):Bool:=decide ((l.getD i z3).1=2)&&(List.range i).all fun j=>decide (l.getD j z3≠l.getD i z3)
def dS (A:List R1) (c:Nat):Nat:=((List.range A.length).filter (firstT (A.map fun a=>a.2.getD c z3))).length
def eT (ts:List T) (As:List (List R1)) (t:T) (A:List R1) (i:Nat):Bool:=decide ((dG ts As t (rowAt A i).2 (bN A i)).1≠0)
def iD (t:T) (A:List R1):Int×Int×ByteArray :=
 if 64<A.length then (5,0,e0) else
  match aO (fun c=>decide (40<dS A c)) t.cols.length with
  | some c=>(5,0,(cAt t c).nm)
  | none=>(0,0,e0)
def dM (ts:List T) (As:List (List R1)) (t:T) (A:List R1):Int×Int×ByteArray :=
 match aO (eT ts As t A) A.length with
 | some i=>((dG ts As t (rowAt A i).2 (bN A i)).1,(rowAt A i).1,(dG ts As t (rowAt A i).2 (bN A i)).2)
 | none=>(0,0,e0)
def lW (ts:List T) (As:List (List R1)) (t:T) (A:List R1):Int×Int×ByteArray:=if (iD t A).1=0 then dM ts As t A else iD t A
def bK (ts:List T) (As:List (List R1)) (j:Nat):Int×Int×ByteArray:=lW ts As (ts.getD j ⟨e0,[],e0,[]⟩) (As.getD j [])
def bF (ts:List T) (As:List (List R1)):Int×ByteArray×Int×ByteArray :=
 match aO (fun j=>decide ((bK ts As j).1≠0)) ts.length with
 | some j=>((bK ts As j).1,(ts.getD j ⟨e0,[],e0,[]⟩).nm,(bK ts As j).2.1,(bK ts As j).2.2)
 | none=>(0,e0,0,e0)
def lA (A:List R1) (c:Nat):List T3:=A.map fun a=>a.2.getD c z3
def fY (l:List T3) (i:Nat):Bool:=decide ((l.getD i z3).1=2)&&(List.range i).all fun j=>decide (l.getD j z3≠l.getD i z3)
def dI (l:List T3) (n:Nat):List Nat:=(List.range n).filter (fY l)
theorem tR (l:List T3) (n:Nat):(dI l (n+1)).length=(dI l n).length+if fY l n=true then 1 else 0:=by
 unfold dI;rw[List.range_succ,List.filter_append,List.length_append];cases h:fY l n <;> simp[h]
theorem fN {l:List T3} {i:Nat}:fY l i=true↔(l.getD i z3).1=2/\∀ j,j<i->l.getD j z3≠l.getD i z3:=by
 unfold fY;rw[Bool.and_eq_true,List.all_eq_true,decide_eq_true_iff];constructor
 ·rintro ⟨h1,h2⟩;exact⟨h1,fun j hj=>of_decide_eq_true (h2 j (List.mem_range.2 hj))⟩
 rintro ⟨h1,h2⟩;exact⟨h1,fun j hj=>decide_eq_true (h2 j (List.mem_range.1 hj))⟩
theorem getD_lt {l:List T3} {i:Nat} (h:i<l.length):l.getD i z3=l[i]:=by
 rw[List.getD_eq_getElem?_getD,qQq h];rfl
theorem aBZ {x y:T3} (hx:x.2.1=0/\x.2.2.size<=12) (hy:y.2.1=0/\y.2.2.size<=12) (h1:x.1=2) (h2:y.1=2) (e:wd x.2.2=wd y.2.2):x=y:=by
 obtain⟨k,n,s⟩:=x;obtain⟨k',n',s'⟩:=y
 have:=aFZ hx.2 hy.2 e
 simp only at h1 h2 hx hy this;rw[h1,h2,hx.1,hy.1,this]
theorem zM {l:List T3} (hv:∀ x∈l,x.1=2->x.2.1=0/\x.2.2.size<=12) :
  ∃ m:List (K 12),m.length=(dI l l.length).length/\m.Nodup/\∀ s,s∈m↔∃ x∈l,x.1=2/\wd x.2.2=s:=by
 refine⟨(dI l l.length).map (fun i=>wd (l.getD i z3).2.2),List.length_map _,?_,fun s=>⟨fun hs=>?_,?_⟩⟩
 ·have hn:(dI l l.length).Pairwise (fun a b=>a≠b):=List.Pairwise.filter _ List.nodup_range;unfold List.Nodup;rw[List.pairwise_map];refine hn.imp_of_mem (fun {i j} hi hj hne e=>hne ?_);obtain⟨hi1,hi2⟩:=List.mem_filter.1 hi;obtain⟨hj1,hj2⟩:=List.mem_filter.1 hj;have hi1:=List.mem_range.1 hi1;have hj1:=List.mem_range.1 hj1;obtain⟨a1,a2⟩:=fN.1 hi2;obtain⟨b1,b2⟩:=fN.1 hj2;have ei:l.getD i z3∈l:=(by rw[getD_lt hi1];exact List.getElem_mem hi1);have ej:l.getD j z3∈l:=(by rw[getD_lt hj1];exact List.getElem_mem hj1);have heq:=aBZ (hv _ ei a1) (hv _ ej b1) a1 b1 e;rcases Nat.lt_trichotomy i j with h|h|h
  ·exact absurd heq (b2 i h)
  ·exact h
  exact absurd heq.symm (a2 j h)
 ·obtain⟨i,hi,rfl⟩:=List.mem_map.1 hs;obtain⟨hi1,hi2⟩:=List.mem_filter.1 hi;have hi1:=List.mem_range.1 hi1;exact⟨l.getD i z3,by rw[getD_lt hi1];exact List.getElem_mem hi1,(fN.1 hi2).1,rfl⟩
 rintro ⟨x,hx,h1,rfl⟩
 have hex:∃ i,i<l.length/\l.getD i z3=x:=by
  obtain⟨i,hi,rfl⟩:=List.getElem_of_mem hx;exact⟨i,hi,getD_lt hi⟩
 have hmin:∃ i,(i<l.length/\l.getD i z3=x)/\∀ j,j<i->¬ (j<l.length/\l.getD j z3=x):=by
  obtain⟨i,hi⟩:=hex
  induction i using Nat.strongRecOn with
  | ind i ih =>
   by_cases h:∃ j,j<i/\j<l.length/\l.getD j z3=x
   ·obtain⟨j,hj,h2⟩:=h;exact ih j hj h2
   ·exact⟨i,hi,fun j hj h2=>h ⟨j,hj,h2⟩⟩
 obtain⟨i,⟨hi,he⟩,hm⟩:=hmin;refine List.mem_map.2 ⟨i,List.mem_filter.2 ⟨List.mem_range.2 hi,fN.2 ⟨by rw[he];exact h1,fun j hj e=>hm j hj ⟨by omega,e.trans he⟩⟩⟩,by rw[he]⟩
theorem aDN {kind:Int} {x:T3} (h:inC kind x=true) (h2:x.1=2):x.2.1=0/\x.2.2.size<=12:=by
 refine⟨?_,lB h h2⟩;unfold inC at h;rw[Bool.and_eq_true] at h;have h:=h.1;unfold eP at h;rw[h2] at h;simp at h;exact h.1
section
variable {W:World} {tb next:Nat} {t:T} {A:List R1} {lab:Nat->Nat}
theorem tS (h:Tb W tb t next A lab) {c:Nat} (hc:c<t.cols.length) (hx:ixC t.cols t.cols[c].nm=(c:Int)) :
  Calls Tryz.prog 80 #[.pointer (some ⟨tb,0,none⟩),.string t.cols[c].nm] W fun e w'=>e=.returned (.int .i64 ((dI (lA A c) A.length).length:Int))/\Below W.heap.size W w':=by
 have hcol:∀ x∈lA A c,x.1=2->x.2.1=0/\x.2.2.size<=12:=fun x hx h2=>by
  unfold lA at hx;obtain⟨a,ha,rfl⟩:=List.mem_map.1 hx;have hl:=h.len a ha;have hc':c<a.2.length:=(by omega);have hv:=h.ok a ha c hc a.2[c] (qQq hc');rw[getD_lt hc'] at h2 ⊢;obtain⟨u,hu⟩:∃ u,a.2[c]=u:=⟨_,rfl⟩;rw[hu] at hv h2 ⊢;exact aDN hv h2
 obtain⟨m,m1,m2,m3⟩:=zM hcol;have hl:(lA A c).length=A.length:=(by unfold lA;rw[List.length_map]);rw[hl] at m1;rw[<- m1];refine uZ h hc hx m m2 (fun s=>?_);rw[m3];constructor
 ·rintro ⟨x,hx,h1,h2⟩;unfold lA at hx;obtain⟨a,ha,rfl⟩:=List.mem_map.1 hx;have hc':c<a.2.length:=(by rw[h.len a ha];exact hc);rw[getD_lt hc'] at h1 h2;exact⟨a,ha,a.2[c],qQq hc',h1,h2⟩
 rintro ⟨a,ha,y,hy,h1,h2⟩;have hc':c<a.2.length:=(by rw[h.len a ha];exact hc);rw[qQq hc'] at hy;cases hy;exact⟨_,List.mem_map_of_mem ha,by rw[getD_lt hc'];exact h1,by rw[getD_lt hc'];exact h2⟩
end
theorem aDO (A:List R1) (c:Nat):(dI (lA A c) A.length).length=dS A c:=rfl
def aAQ (k:Int) (n:Nat):Bool:=if k=1∨k=2 then true else if k=3 then decide (n=1) else false
def doE (ts:List T) (L:List PT) (o:OpX):Int×Int :=
 if aAQ o.dO o.vals.length=false then (0,1) else match ts[(ixT ts o.tbl).toNat]?,L[(ixT ts o.tbl).toNat]? with
 | some t,some x=>if ixT ts o.tbl<0 then (0,3) else if o.dO=1 then (insN t x o.vals,cU t o.vals) else if o.dO=2 then (0,if bY x.2 o.id=true then 0 else 6) else (0,gQ t x.2 o.id o.col (o.vals.getD 0 z3))
 | _,_=>(0,3)
def do1 (ts:List T) (L:List PT) (o:OpX):List PT:=if aAQ o.dO o.vals.length=true then iQ ts L o else L
section
variable {K:Nat->Prop} {W0 w:World} {d b m:Nat} {ts:List T} {ps:List Nat} {L1 L2:List PT} {S:Nat->Prop} {vv:Value} {o:OpX}
end
section
variable {w:World} {d n c pt:Nat} {id r1 r2:Int} {tb col:ByteArray} {p:Option Addr} {Q:World->Prop}
end
section
variable {w:World} {b n c t:Nat} {id r1 r2:Int} {tb col:ByteArray} {p:Option Addr} {Q:World->Prop} {sv:Value}
end
section
variable {K:Nat->Prop} {W0 w:World} {d b m j:Nat} {ts:List T} {ps:List Nat} {L L1 L2:List PT} {S:Nat->Prop} {vv:Value} {o:OpX}
end
structure Out where
 rows:List PT
 ids:List Int
 err:Int
 place:Int
 tbl:ByteArray
def aHq (ts:List T):List PT->Nat->List Int->List OpX->Out
 | L,_,ids,[]=>⟨L,ids,0,0,e0⟩
 | L,k,ids,o::l=>if (doE ts L o).2=0 then aHq ts (do1 ts L o) (k+1) (if o.dO=1 then ids++[(doE ts L o).1] else ids) l else ⟨do1 ts L o,[],(doE ts L o).2,(k:Int),o.tbl⟩
def aHI (ts:List T) (L:List PT) (l:List OpX):Out:=if l.length=0∨40<l.length then ⟨L,[],5,0,e0⟩ else aHq ts L 0 [] l
section
variable {ts:List T} {L:List PT} {l:List OpX} {ids:List Int} {k j m:Nat}
end
abbrev zF:Array Value:=#[.int .i64 0,.int .i64 0,.string e0,.int .i64 0,.string e0]
abbrev fP (e a:Int) (t:ByteArray) (r:Int) (c:ByteArray):Value:=.agg #[.int .i64 e,.int .i64 a,.string t,.int .i64 r,.string c]
theorem zN {x:World} {b:Nat} {a0 a1 a2 a3 a4:Value} {t:TypeId} (h:x.heap[b]?=some (.cells #[a0,a1,a2,a3,a4] t)) (a c d e f:Value) :
  (((((x.setCell ⟨b,0,none⟩ a).setCell ⟨b,1,none⟩ c).setCell ⟨b,2,none⟩ d).setCell ⟨b,3,none⟩ e).setCell ⟨b,4,none⟩ f).heap[b]?=some (.cells #[a,c,d,e,f] t):=by
 rw[heap_setCell_same _ b 4 #[a,c,d,e,a4] t f (heap_setCell_same _ b 3 #[a,c,d,a3,a4] t e (heap_setCell_same _ b 2 #[a,c,a2,a3,a4] t d (heap_setCell_same _ b 1 #[a,a1,a2,a3,a4] t c (heap_setCell_same _ b 0 #[a0,a1,a2,a3,a4] t a h))))];rfl
theorem cP {A w:World} {g:Nat} (h:A.grownBy w (some g)) (j:Nat) (a:Value):A.grownBy (w.setCell ⟨g,j,none⟩ a) (some g) :=
 ⟨h.os,h.tape,h.output,by simpa using h.size,fun q hq hne=>by
  rw[heap_setCell_other w ⟨g,j,none⟩ q a (fun e=>hne (by rw[e]))];exact h.block q hq hne⟩
theorem qB (w:World) (o:Option Nat):w.grownBy w o:=⟨rfl,rfl,rfl,Nat.le_refl _,fun _ _ _=>rfl⟩
theorem dN (w:World) (g:Nat) (a b c d e:Value):w.grownBy (((((w.setCell ⟨g,0,none⟩ a).setCell ⟨g,1,none⟩ b).setCell ⟨g,2,none⟩ c).setCell ⟨g,3,none⟩ d).setCell ⟨g,4,none⟩ e) (some g) :=
 cP (cP (cP (cP (cP (qB w (some g)) 0 a) 1 b) 2 c) 3 d) 4 e
section
variable {K Kx:Nat->Prop} {W0 wx w w':World} {d b R:Nat} {ts:List T} {ps:List Nat} {L1 L2:List PT} {S:Nat->Prop} {ids:List Int} {idv:Value}
structure OpsK (K:Nat->Prop) (W0:World) (tv:Value) (L:List OpX):Prop where
 sl:∃ p cap,tv=.slice p L.length cap
 rd:∀ j (hj:j<L.length),∃ g cap vv,tv=.slice (some ⟨g,0,none⟩) L.length cap/\∀ w:World,(∀ q,K q->w.heap[q]?=W0.heap[q]?) ->
   (w.cell? ⟨g,j*5,none⟩=some (.int .i64 L[j].dO)/\w.cell? ⟨g,j*5+1,none⟩=some (.string L[j].tbl)/\w.cell? ⟨g,j*5+2,none⟩=some (.int .i64 L[j].id)/\w.cell? ⟨g,j*5+3,none⟩=some (.string L[j].col)/\w.cell? ⟨g,j*5+4,none⟩=some vv/\g<w.heap.size)/\InV K w vv L[j].vals
structure ApK (K:Nat->Prop) (W0:World) (d b:Nat) (ts:List T) (ps:List Nat) (R:Nat) (ids:List Int) (idv:Value) (Kx:Nat->Prop) (wx:World):Prop where
 kk:∀ q,K q->Kx q
 kr:Kx R
 r:wx.heap[R]?=some (.cells zF 33)
 row:Ro wx (R+1) idv ids
 kb:∀ q,idv.ownBlock=some q->Kx q
 back:∀ w2 X Y,PD Kx wx w2 d b ts ps X Y->PD K W0 w2 d b ts ps X Y
 lo:W0.heap.size<=R
end
theorem lX (e a r:Int) (t c:ByteArray) (W:World):Calls Tryz.prog 17 #[fP e a t r c,fP e a t r c] W fun x w'=>x=.returned (.bool true)/\Below W.heap.size W w':=by
 have hb1:=aC W (.cells #[.int .i64 e,.int .i64 a,.string t,.int .i64 r,.string c] 33);have k1:=qOq W (.cells #[.int .i64 e,.int .i64 a,.string t,.int .i64 r,.string c] 33);have hb2:=aC (W.alloc (.cells #[.int .i64 e,.int .i64 a,.string t,.int .i64 r,.string c] 33)) (.cells #[.int .i64 e,.int .i64 a,.string t,.int .i64 r,.string c] 33);have k2:=qOq (W.alloc (.cells #[.int .i64 e,.int .i64 a,.string t,.int .i64 r,.string c] 33)) (.cells #[.int .i64 e,.int .i64 a,.string t,.int .i64 r,.string c] 33);have k1:=aD hb2 k1;have hb2:=aB hb1 hb2;obtain⟨w2,hw2⟩:∃ w2,(W.alloc (.cells #[.int .i64 e,.int .i64 a,.string t,.int .i64 r,.string c] 33)).alloc (.cells #[.int .i64 e,.int .i64 a,.string t,.int .i64 r,.string c] 33)=w2:=⟨_,rfl⟩;obtain⟨B,hB⟩:∃ B,W.heap.size=B:=⟨_,rfl⟩;rw[qPq] at k2;rw[hw2] at k1 k2 hb2;rw[hB] at k1 k2;have x0:=aA k1 0;have x1:=aA k1 1;have x2:=aA k1 2;have x3:=aA k1 3;have x4:=aA k1 4;have xl:=lt_of_heap k1;have y0:=aA k2 0;have y1:=aA k2 1;have y2:=aA k2 2;have y3:=aA k2 3;have y4:=aA k2 4;have yl:=lt_of_heap k2;have e1:(e==e)=true:=beq_self_eq_true e;have e2:(a==a)=true:=beq_self_eq_true a;have e3:(r==r)=true:=beq_self_eq_true r;have e4:(t.data.toList==t.data.toList)=true:=beq_self_eq_true _;have e5:(c.data.toList==c.data.toList)=true:=beq_self_eq_true _;have HW:=qAq (qBq hw2 (qBq hB hb2));clear hw2 hB hb1 hb2 k1 k2;go_enter Tryz.func17,Tryz.ntmps17;go_upto_region 1 with fail;rw[HW.out.1,HW.out.2.1];go_wp2_with fail;go_ret;exact⟨by first|rfl|simp,HW.out.2.2⟩
section
variable {W:World} {d b m:Nat} {L:List PT}
end
theorem HRow.lit {w:World} {g n size base:Nat} {e:TypeId} {cs:Array Value} {xs:List Value} (h:w.heap[g]?=some (.cells cs e)) (hcs:cs.toList=xs) (hl:xs.length=n*size) (hb:base<=g) (hn:n<=maxLen):HRow w base e size (.slice (some ⟨g,0,none⟩) n n) n xs:=by
 have e1:cs.size=n*size:=(by rw[<- hl,<- hcs,Array.length_toList]);exact⟨hl,.inr ⟨g,n,cs,rfl,hb,h,Nat.le_refl _,hn,Nat.le_of_eq e1.symm,by rw[hcs,<- hl,List.take_length]⟩⟩
theorem aGM {w:World} {base g:Nat} {v1:Value} {o1:OpX} {cs:Array Value} (hg:w.heap[g]?=some (.cells cs 47)) (hcs:cs.toList=opC o1 v1) (hb:base<=g) (h1:HRow w base 42 3 v1 o1.vals.length (cells3 o1.vals)):OpsO w base (.slice (some ⟨g,0,none⟩) 1 1) [o1]:=by
 refine⟨[v1],rfl,HRow.lit hg (by rw[hcs];simp[cO]) rfl hb (by unfold maxLen;omega),fun j hj=>?_⟩;have:j=0:=(by simpa using hj);subst this;exact⟨v1,rfl,h1⟩
theorem zP {w:World} {base g:Nat} {v1 v2:Value} {o1 o2:OpX} {cs:Array Value} (hg:w.heap[g]?=some (.cells cs 47)) (hcs:cs.toList=opC o1 v1++opC o2 v2) (hb:base<=g) (h1:HRow w base 42 3 v1 o1.vals.length (cells3 o1.vals)) (h2:HRow w base 42 3 v2 o2.vals.length (cells3 o2.vals)):OpsO w base (.slice (some ⟨g,0,none⟩) 2 2) [o1,o2]:=by
 refine⟨[v1,v2],rfl,HRow.lit hg (by rw[hcs];simp[cO]) rfl hb (by unfold maxLen;omega),fun j hj=>?_⟩;have hj:j<2:=hj;rcases (show j=0∨j=1 by omega) with rfl|rfl
 ·exact⟨v1,rfl,h1⟩
 exact⟨v2,rfl,h2⟩
section
variable {ts:List T}
end
section
variable {W w w1:World} {K:Nat->Prop} {W0:World} {d b m:Nat} {ps:List Nat} {L1 L2:List PT} {tv:Value} {ops:List OpX}
end
abbrev sA:ByteArray:=⟨#[97]⟩
abbrev sB:ByteArray:=⟨#[98]⟩
abbrev aHQ:List OpX:=[⟨1,aV,0,e0,[(1,5,e0),(2,0,sA)]⟩,⟨3,aV,0,iH,[(2,0,sB)]⟩]
abbrev aHR:List OpX:=[⟨2,aV,0,e0,[]⟩,⟨2,aV,0,e0,[]⟩]
abbrev bR1:List PT:=[(1,[(0,[(1,5,e0),(2,0,sB)])]),(0,[]),(0,[]),(0,[])]
abbrev bR2:List PT:=[(1,[]),(0,[]),(0,[]),(0,[])]
theorem tT {k:Int} {tb col:ByteArray} {v:List T3} (h1:tb.size<=100) (h2:col.size<=100) (h3:∀ x∈v,x.2.2.size<=100) (h4:v.length<=10):OpOk ⟨k,tb,0,col,v⟩ :=
 ⟨by unfold F64;exact⟨by show (-9223372036854775808:Int)<=0;decide,by show (0:Int)<=9223372036854775807;decide⟩,Nat.le_trans h1 (by unfold maxLen;omega),Nat.le_trans h2 (by unfold maxLen;omega),fun x hx=>Nat.le_trans (h3 x hx) (by unfold maxLen;omega),Nat.le_trans h4 (by omega)⟩
theorem wM (W:World):Calls Tryz.prog 30 #[] W fun e w'=>e=.returned (.bool true)/\Below W.heap.size W w':=by
 have h:=wL W;go_enter Tryz.func30,Tryz.ntmps30;go_wp2_with (go_at_call 56;(with_reducible refine h.mono ?_);rintro e w' ⟨rfl,hb⟩);go_ret;exact⟨rfl,hb⟩
abbrev bC1:Array Value:=#[.int .i64 1,.int .i64 5,.string e0,.int .i64 2,.int .i64 0,.string sA]
abbrev bC2:Array Value:=#[.int .i64 2,.int .i64 0,.string sB]
abbrev bO1 (g1 g2:Nat):Array Value:=#[.int .i64 1,.string aV,.int .i64 0,.string e0,.slice (some ⟨g1,0,none⟩) 2 2,.int .i64 3,.string aV,.int .i64 0,.string iH,.slice (some ⟨g2,0,none⟩) 1 1]
abbrev bO2:Array Value:=#[.int .i64 2,.string aV,.int .i64 0,.string e0,.slice none 0 0,.int .i64 2,.string aV,.int .i64 0,.string e0,.slice none 0 0]
section
variable {W w w1 w3 w4:World} {K:Nat->Prop} {W0:World} {d b m:Nat} {ps:List Nat} {L1 L2:List PT}
end
structure Two (W:World) (F1 F2 d b m:Nat) (p q:Option Addr) (n c c':Nat) (out:Out) (w:World):Prop where
 f1:w.heap[F1]?=some (.cells #[.int .i64 out.err,.int .i64 out.place,.string out.tbl,.int .i64 0,.string e0] 33)
 f2:w.heap[F2]?=some (.cells #[.int .i64 out.err,.int .i64 out.place,.string out.tbl,.int .i64 0,.string e0] 33)
 r1:Ro w 0 (.slice p n c) out.ids
 r2:Ro w 0 (.slice q n c') out.ids
 rd:Rd2 w d b (pre 4) out.rows
 sm:∀ x∈out.rows,SmP m x
 bel:Below W.heap.size W w
