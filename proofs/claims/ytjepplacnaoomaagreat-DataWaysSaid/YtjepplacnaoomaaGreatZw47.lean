import Derived.Test.YtjepplacnaoomaaGreatZw46
import Derived.Test.YtjepplacnaoomaaGreatZw37
import Derived.Test.YtjepplacnaoomaaGreatZw24
import Derived.Test.YtjepplacnaoomaaGreatZw33
import Derived.Test.YtjepplacnaoomaaGreatZw18
import Derived.Test.YtjepplacnaoomaaGreatZw43
import Derived.Test.YtjepplacnaoomaaGreatZw10
import Derived.Test.YtjepplacnaoomaaGreatZw45
import Derived.Test.YtjepplacnaoomaaGreatZw40
import Derived.Test.YtjepplacnaoomaaGreatZw35
import Derived.Test.YtjepplacnaoomaaGreatZw31
namespace Go.Proofs.YtjepplacnaoomaaGreat
open Go Go.RowKit Go.Proofs Co Co.S Par
theorem InV.lit {w:World} {g:Nat} {l:List T3} {cs:Array Value} (h:w.heap[g]?=some (.cells cs 26)) (hcs:cs.toList=cells3 l) (hl:l.length<=maxLen):InV (fun q=>q=g) w (.slice (some ⟨g,0,none⟩) l.length l.length) l:=by
 refine⟨_,_,rfl,Nat.le_refl _,hl,fun _=>⟨g,0,rfl,lt_of_heap h,rfl,fun j u hj=>?_⟩⟩
 have:=nd_cell h j
 rw[Nat.zero_add,this,<- hj,<- hcs,Array.getElem?_toList]
theorem Wd.lits {w:World} {g:Nat} {l:List ByteArray} {cs:Array Value} (h:w.heap[g]?=some (.cells cs 9)) (hcs:cs.toList=l.map Value.string) (hl:l.length<=maxLen):Wd w (.slice (some ⟨g,0,none⟩) l.length l.length) l:=by
 refine⟨_,_,rfl,Nat.le_refl _,hl,fun a h=>(by cases h;rfl),fun _=>⟨g,0,cs,(0,0),rfl,h,fun j hj=>?_⟩⟩;rw[Nat.zero_add,<- Array.getElem?_toList,hcs,List.getElem?_map,List.getElem?_eq_getElem hj];rfl
structure JI (K:Nat->Prop) (W0 wS:World) (d b:Nat) (ts:List T) (ps:List Nat) (L1 L2:List PT) (E:Nat->Value) (iS iI:Nat) (vals:List T3) (l:Nat->Bool) (vs:Nat->Value) (w:World):Prop where
 ev:∀ j,j≠iS->l j=true->vs j=E j
 pre:l iI=false->Below wS.heap.size wS w
 row:l iI=false->l iS=true->∃ g,vs iS=.slice (some ⟨g,0,none⟩) vals.length vals.length/\w.heap[g]?=some (.cells (cells3 vals).toArray 26)/\wS.heap.size<=g
 post:l iI=true->PD K W0 w d b ts ps L1 L2
section
variable {K:Nat->Prop} {W0 wS w w':World} {d b:Nat} {ts:List T} {ps:List Nat} {L1 L2:List PT} {E:Nat->Value} {iS iI:Nat} {vals:List T3} {l:Nat->Bool} {vs:Nat->Value}
theorem JI.up (h:JI K W0 wS d b ts ps L1 L2 E iS iI vals l vs w) (i:Nat) (h1:i≠iS) (h2:i≠iI):JI K W0 wS d b ts ps L1 L2 E iS iI vals (upB l i) (upV vs i (E i)) w:=by
 refine⟨fun j hj hl=>?_,fun hl=>h.pre ?_,fun hl hl2=>?_,fun hl=>h.post ?_⟩
 ·by_cases e:j=i
  ·subst e;rw[upV_eq]
  ·rw[upV_ne e];rw[upB_ne e] at hl;exact h.ev j hj hl
 ·rwa [upB_ne (fun e=>h2 e.symm)] at hl
 ·rw[upV_ne (fun e=>h1 e.symm)];exact h.row (by rwa [upB_ne (fun e=>h2 e.symm)] at hl) (by rwa [upB_ne (fun e=>h1 e.symm)] at hl2)
 ·rwa [upB_ne (fun e=>h2 e.symm)] at hl
theorem JI.new (h:JI K W0 wS d b ts ps L1 L2 E iS iI vals l vs w) (hI:l iI=false) (hne:iS≠iI) {cs:Array Value} (hcs:cs=(cells3 vals).toArray) {n:Nat} (hn:n=vals.length):JI K W0 wS d b ts ps L1 L2 E iS iI vals (upB l iS) (upV vs iS (.slice (some ⟨w.heap.size,0,none⟩) n n)) (w.alloc (.cells cs 26)):=by
 subst hcs hn;refine⟨fun j hj hl=>?_,fun _=>below_on (h.pre hI) (below_alloc w _),fun _ _=>⟨w.heap.size,upV_eq,heap_alloc_new w _,(h.pre hI).size⟩,fun hl=>?_⟩
 ·rw[upV_ne hj];rw[upB_ne hj] at hl;exact h.ev j hj hl
 ·rw[upB_ne (fun e=>hne e.symm),hI] at hl;cases hl
theorem JI.put (h:JI K W0 wS d b ts ps L1 L2 E iS iI vals l vs w) (hne:iI≠iS) (hP:PD K W0 w' d b ts ps L1 L2):JI K W0 wS d b ts ps L1 L2 E iS iI vals (upB l iI) (upV vs iI (E iI)) w':=by
 refine⟨fun j hj hl=>?_,fun hl=>?_,fun hl=>?_,fun _=>hP⟩
 ·by_cases e:j=iI
  ·subst e;rw[upV_eq]
  ·rw[upV_ne e];rw[upB_ne e] at hl;exact h.ev j hj hl
 ·rw[upB_eq] at hl;cases hl
 ·rw[upB_eq] at hl;cases hl
theorem pd_insRow {L0:List PT} {j m:Nat} (h:PD K W0 wS d b ts ps L0 L2) (hb:Below wS.heap.size wS w) (hj:j<ts.length) (hp:j<ps.length) (hL:j<L0.length) {g:Nat} (hg:w.heap[g]?=some (.cells (cells3 vals).toArray 26)) (hgS:wS.heap.size<=g) (hm:SmP m L0[j]) (hm3:m<=390) (hc:ts[j].cols.length<=1000) (hs:∀ x∈vals,x.2.2.size<=maxLen) (hl:vals.length<=1000) :
  Calls Tryz.prog 43 #[(Value.pointer (some ⟨ps[j],0,none⟩)),.slice (some ⟨g,0,none⟩) vals.length vals.length] w fun e w'=>e=.returned (.tuple #[.int .i64 (insN ts[j] L0[j] vals),.int .i64 (insE ts[j] vals)])/\PD K W0 w' d b ts ps (L0.set j (insP ts[j] L0[j] vals)) L2:=by
 have hw:=h.with hb;refine (hw.insD hj hp hL (InV.lit hg rfl (by unfold maxLen;omega)) (fun q (hq:q=g)=>.inr ⟨by omega,by rw[hq];exact lt_of_heap hg⟩) hm hm3 hc hs (by omega)).mono ?_;rintro e w' ⟨rfl,hP⟩;exact⟨rfl,(h.later hb).back hP (fun q hq=>.inl hq)⟩
end
section
variable {K:Nat->Prop} {W0 w:World} {d b:Nat} {ts:List T} {ps:List Nat} {L1 L2:List PT}
abbrev rowsL (L:List PT):List (List R1):=L.map (·.2)
theorem rowsOf_map {st:List DT} {L:List PT} (h:st.map (·.2)=L):rowsOf st=rowsL L:=by
 subst h;show st.map _=(st.map _).map _;rw[List.map_map];rfl
theorem PD.value (h:PD K W0 w d b ts ps L1 L2) (hi:InvQ ts) (hfew:AllFew ts) (hsz:Short ts) {v:Value} (x:ByteArray) {id:Int} {p:List ByteArray} (hid:F64 id) (hp:Wd w v p) :
  Calls Tryz.prog 20 #[(Value.pointer (some ⟨d,0,none⟩)),.string x,.int .i64 id,v] w fun e w'=>e=.returned (.tuple #[(Value.agg #[Value.int .i64 ((valueP ts (rowsL L1) x id p).1.1),Value.int .i64 ((valueP ts (rowsL L1) x id p).1.2.1),Value.string ((valueP ts (rowsL L1) x id p).1.2.2)]),.bool (valueP ts (rowsL L1) x id p).2])/\Below w.heap.size w w':=by
 obtain⟨st,O,hD,_,hL⟩:=h.dd;rw[<- rowsOf_map hL];exact dvalue_any hD hi hfew hsz x hid hp
theorem PD.bykey (h:PD K W0 w d b ts ps L1 L2) (hi:InvQ ts) (hfew:AllFew ts) (hsz:Short ts) (x:ByteArray) (u:T3) :
  Calls Tryz.prog 18 #[(Value.pointer (some ⟨d,0,none⟩)),.string x,(Value.agg #[Value.int .i64 (u.1),Value.int .i64 (u.2.1),Value.string (u.2.2)])] w fun e w'=>e=.returned (.tuple #[.int .i64 ((byKeyP ts (rowsL L1) x u).getD 0),.bool (byKeyP ts (rowsL L1) x u).isSome])/\Below w.heap.size w w':=by
 obtain⟨st,O,hD,_,hL⟩:=h.dd;rw[<- rowsOf_map hL];exact dbykey_any hD hi hfew hsz x u
end
theorem star_short:Short (pre 4):=by
 intro t ht;have h:∀ t∈pre 4,t.nm.size<=12:=(by decide);exact Nat.le_trans (h t ht) (by unfold maxLen;omega)
theorem star_kd:∀ t∈pre 4,∀ c∈t.cols,c.kd=1∨c.kd=2:=by decide
theorem star_cols4:∀ t∈pre 4,0<t.cols.length/\t.cols.length<=4:=by decide
end Go.Proofs.YtjepplacnaoomaaGreat
namespace Go.Proofs.YtjepplacnaoomaaGreat
open Go Go.RowKit Go.Proofs Co Co.S
def fill1 (ts:List T) (L:List PT) (o:OpX):List PT :=
 match ts[(ixT ts o.tbl).toNat]?,L[(ixT ts o.tbl).toNat]? with
 | some t,some x=>if ixT ts o.tbl<0 then L else if o.dO=1 then L.set (ixT ts o.tbl).toNat (insP t x o.vals) else if o.dO=2 then L.set (ixT ts o.tbl).toNat (delP x o.id) else if o.vals.length=1 then L.set (ixT ts o.tbl).toNat (setP t x o.id o.col (o.vals.getD 0 z3)) else L
 | _,_=>L
def fillP (ts:List T) (L:List PT) (l:List OpX):List PT:=l.foldl (fill1 ts) L
structure OpOk (o:OpX):Prop where
 id:F64 o.id
 tbl:o.tbl.size<=maxLen
 col:o.col.size<=maxLen
 vals:∀ x∈o.vals,x.2.2.size<=maxLen
 few:o.vals.length<=1000
section
variable {ts:List T} {L:List PT} {o:OpX} {j m:Nat}
theorem fill1_neg (h:ixT ts o.tbl<0):fill1 ts L o=L:=by
 unfold fill1;split
 ·rw[if_pos h]
 ·rfl
theorem fill1_at (h:ixT ts o.tbl=(j:Int)) (hj:j<ts.length) (hL:j<L.length):fill1 ts L o=if o.dO=1 then L.set j (insP ts[j] L[j] o.vals) else if o.dO=2 then L.set j (delP L[j] o.id) else if o.vals.length=1 then L.set j (setP ts[j] L[j] o.id o.col (o.vals.getD 0 z3)) else L:=by
 unfold fill1;rw[h];simp only[Int.toNat_natCast,List.getElem?_eq_getElem hj,List.getElem?_eq_getElem hL];rw[if_neg (by omega)]
theorem SmP.mono {m m':Nat} {x:PT} (h:SmP m x) (hm:m<=m'):SmP m' x:=⟨Nat.le_trans h.1 hm,h.2⟩
theorem sm_set (h:∀ x∈L,SmP m x) {y:PT} (hy:SmP (m+1) y):∀ x∈L.set j y,SmP (m+1) x:=fun x hx=>by
 rcases List.mem_or_eq_of_mem_set hx with h1|rfl
 ·exact (h x h1).mono (by omega)
 ·exact hy
theorem fill1_sm (h:∀ x∈L,SmP m x):∀ x∈fill1 ts L o,SmP (m+1) x:=by
 unfold fill1;split
 ·rename_i t x h1 h2;have hx:=h x (List.mem_of_getElem? h2);split
  ·exact fun x hx=>(h x hx).mono (by omega)
  ·split
   ·exact sm_set h (hx.ins t o.vals)
   ·split
    ·exact sm_set h ((hx.del o.id).mono (by omega))
    ·split
     ·exact sm_set h ((hx.set t o.id o.col _).mono (by omega))
     ·exact fun x hx=>(h x hx).mono (by omega)
 ·exact fun x hx=>(h x hx).mono (by omega)
theorem fillP_sm {l:List OpX} (h:∀ x∈L,SmP m x):∀ x∈fillP ts L l,SmP (m+l.length) x:=by
 induction l generalizing L m with
 | nil=>exact h
 | cons o l ih =>
  have:=ih (fill1_sm (ts:=ts) (o:=o) h)
  intro x hx
  have:=this x hx
  rw[List.length_cons];exact this.mono (by omega)
theorem fillP_snoc {l:List OpX} (hj:j<l.length):fillP ts L (l.take (j+1))=fill1 ts (fillP ts L (l.take j)) l[j]:=by
 unfold fillP;rw[List.take_succ_eq_append_getElem hj,List.foldl_append];rfl
end
theorem flat5 {α:Type} (f:α->List Value) (hf:∀ x,(f x).length=5):∀ (l:List α) (j k:Nat) (hj:j<l.length),k<5->(l.flatMap f)[j*5+k]?=(f l[j])[k]?
 | [],j,_,hj,_=>absurd hj (Nat.not_lt_zero j)
 | x::l,0,k,_,hk=>by
  rw[List.flatMap_cons,List.getElem?_append_left (by rw[hf];omega),Nat.zero_mul,Nat.zero_add];rfl
 | x::l,j+1,k,hj,hk=>by
  have hj':j<l.length:=(by simpa using hj);rw[List.flatMap_cons,List.getElem?_append_right (by rw[hf];omega),hf,show (j+1)*5+k-5=j*5+k by omega];exact flat5 f hf l j k hj' hk
theorem cellsO_at {L:List OpX} {sv:List Value} (h:sv.length=L.length) {j:Nat} (hj:j<L.length) {v:Value} (hv:sv[j]?=some v) :
  (cellsO L sv)[j*5]?=some (.int .i64 L[j].dO)/\(cellsO L sv)[j*5+1]?=some (.string L[j].tbl)/\(cellsO L sv)[j*5+2]?=some (.int .i64 L[j].id)/\(cellsO L sv)[j*5+3]?=some (.string L[j].col)/\(cellsO L sv)[j*5+4]?=some v:=by
 have hz:j<(L.zip sv).length:=by rw[List.length_zip,h,Nat.min_self];exact hj
 have e:(L.zip sv)[j]=(L[j],v):=by
  rw[List.getElem_zip]
  have:sv[j]'(by rw[h];exact hj)=v:=by
   have:=(List.getElem?_eq_some_iff.1 hv).2
   exact this
  rw[this]
 have f:=(fun k hk=>flat5 (fun p:OpX×Value=>opC p.1 p.2) (fun _=>rfl) (L.zip sv) j k hz hk);simp only[e] at f;exact⟨f 0 (by decide),f 1 (by decide),f 2 (by decide),f 3 (by decide),f 4 (by decide)⟩
theorem ops_read {K:Nat->Prop} {W0:World} {base:Nat} {tv:Value} {L:List OpX} (ho:OpsO W0 base tv L) (hK:∀ q,base<=q->q<W0.heap.size->K q) {j:Nat} (hj:j<L.length) :
  ∃ g cap vv,tv=.slice (some ⟨g,0,none⟩) L.length cap/\∀ w:World,(∀ q,K q->w.heap[q]?=W0.heap[q]?) ->
   (w.cell? ⟨g,j*5,none⟩=some (.int .i64 L[j].dO)/\w.cell? ⟨g,j*5+1,none⟩=some (.string L[j].tbl)/\w.cell? ⟨g,j*5+2,none⟩=some (.int .i64 L[j].id)/\w.cell? ⟨g,j*5+3,none⟩=some (.string L[j].col)/\w.cell? ⟨g,j*5+4,none⟩=some vv/\g<w.heap.size) /\
   HRow w base 26 3 vv L[j].vals.length (cells3 L[j].vals)/\InV K w vv L[j].vals:=by
 obtain⟨sv,h1,h2,h3⟩:=ho;obtain⟨g,cap,rfl,_,_⟩:=HRow.slice h2 (by omega);obtain⟨v,hv,hr⟩:=h3 j hj;obtain⟨c0,c1,c2,c3,c4⟩:=cellsO_at h1 hj hv;refine⟨g,cap,v,rfl,fun w hw=>?_⟩
 have hkq:∀ {e size n:Nat} {u:Value} {xs:List Value},HRow W0 base e size u n xs->HRow w base e size u n xs:=fun hr=>hr.of (fun q hq=>by
  obtain⟨q1,q2⟩:=HRow.lt hr q hq;exact hw q (hK q q1 q2))
 have h2':=hkq h2;have hr':=hkq hr;refine⟨⟨h2'.cell c0,h2'.cell c1,h2'.cell c2,h2'.cell c3,h2'.cell c4,(HRow.lt h2' g rfl).2⟩,hr',(InV.of_row hr' rfl).mono (fun q _ hq=>?_)⟩;obtain⟨q1,q2⟩:=HRow.lt hr q hq;exact hK q q1 q2
end Go.Proofs.YtjepplacnaoomaaGreat
namespace Go.Proofs.YtjepplacnaoomaaGreat
open Go Go.RowKit Go.Proofs Co Co.S Par
structure JR (W:World) (A:List R1) (E:Nat->Value) (l:Nat->Bool) (vs:Nat->Value) (w:World):Prop where
 bel:Below W.heap.size W w
 ev:∀ j,j≠4->l j=true->vs j=E j
 v4:l 4=true->∃ p n c,vs 4=.agg #[.slice p n c]/\Vm w (.slice p n c) (idsP A)
section
variable {W w w':World} {A:List R1} {E:Nat->Value} {l:Nat->Bool} {vs:Nat->Value}
end
end Go.Proofs.YtjepplacnaoomaaGreat
namespace Go.Proofs.YtjepplacnaoomaaGreat
open Go Go.RowKit Go.Proofs Co Co.S
def cutC (c:C):C:=⟨cutB 20 c.nm,c.kd,c.mu,cutB 20 c.tgt⟩
def cutD (d:D):D:=⟨pathP d.left,cutB 20 d.right⟩
def cutTb (t:T):T:=⟨cutB 20 t.nm,(t.cols.map cutC).take 8,cutB 20 t.key,(t.deps.map cutD).take 5⟩
def lvW (B:Nat) (l:List ByteArray):Par.VW:=⟨fun v w=>∃ p n c,v=.slice p n c/\n=(pathP l).length/\HRow w B 9 1 (.slice p n c) n (cellsS (pathP l)),fun v w w' h hb=>by
 obtain⟨p,n,c,h1,h2,h3⟩:=h;exact⟨p,n,c,h1,h2,h3.later hb⟩⟩
def ldW (B:Nat) (l:List ByteArray) (r:ByteArray):Par.VW:=⟨fun v w=>∃ p n c,v=.agg #[.slice p n c,.string r]/\n=(pathP l).length/\HRow w B 9 1 (.slice p n c) n (cellsS (pathP l)),fun v w w' h hb=>by
 obtain⟨p,n,c,h1,h2,h3⟩:=h;exact⟨p,n,c,h1,h2,h3.later hb⟩⟩
def lsW (B:Nat) (l:List ByteArray) (r:ByteArray):Par.VW:=⟨fun v w=>∃ g p n c,v=.slice (some ⟨g,0,none⟩) 1 1/\w.heap[g]?=some (.cells #[.slice p n c,.string r] 135)/\n=(pathP l).length/\HRow w B 9 1 (.slice p n c) n (cellsS (pathP l)),fun v w w' h hb=>by
 obtain⟨g,p,n,c,h1,h0,h2,h3⟩:=h;exact⟨g,p,n,c,h1,heap_on hb h0,h2,h3.later hb⟩⟩
section
variable {B:Nat} {w w':World} {us:List T} {v:Value} {xs:List Value}
end
theorem find_append_old {ts:List T} {t u:T} {x:ByteArray} (h:findT ts x=some u):findT (ts++[t]) x=some u:=by
 unfold findT at h ⊢;rw[List.find?_append,h];rfl
theorem find_anyW {α:Type} {p:α->Bool} (l:List α):l.any p=(l.find? p).isSome:=by
 induction l with
 | nil=>rfl
 | cons a r ih =>
  rw[List.any_cons,List.find?_cons];cases h:p a <;> simp[ih]
theorem sum_leW {α:Type} (f:α->Nat) (m:Nat):∀ (l:List α),(∀ x∈l,f x<=m)->(l.map f).sum<=l.length*m
 | [],_=>by simp
 | a::r,h=>by
  rw[List.map_cons,List.sum_cons,List.length_cons,Nat.add_mul];have h1:=h a (by simp);have h2:=sum_leW f m r (fun x hx=>h x (by simp[hx]));omega
theorem cb_swap:∀ a b:List UInt8,Lib.compareBytes a b=- Lib.compareBytes b a
 | [],[]=>by simp[Lib.compareBytes]
 | [],_::_=>by simp[Lib.compareBytes]
 | _::_,[]=>by simp[Lib.compareBytes]
 | x::a,y::b=>by
  have ih:=cb_swap a b;unfold Lib.compareBytes;by_cases h:x<y
  ·have h2:¬ y<x:=(by rw[UInt8.lt_iff_toNat_lt] at *;omega);simp[h,h2]
  ·by_cases h2:y<x
   ·simp[h,h2]
   ·simp[h,h2,ih]
theorem cb_trans:∀ a b c:List UInt8,Lib.compareBytes a b<=0->Lib.compareBytes b c<=0->Lib.compareBytes a c<=0
 | [],[],[],_,_=>by simp[Lib.compareBytes]
 | [],_,_::_,_,_=>by simp[Lib.compareBytes]
 | [],_::_,[],_,h=>by simp[Lib.compareBytes] at h
 | _::_,[],_,h,_=>by simp[Lib.compareBytes] at h
 | _::_,_::_,[],_,h=>by simp[Lib.compareBytes] at h
 | x::a,y::b,z::c,h1,h2=>by
  have ih:=cb_trans a b c;simp only[Lib.compareBytes,UInt8.lt_iff_toNat_lt] at h1 h2 ⊢;split at h1
  ·split at h2
   ·rw[if_pos (by omega)];omega
   ·split at h2
    ·omega
    ·rw[if_pos (by omega)];omega
  ·split at h1
   ·omega
   ·split at h2
    ·rw[if_pos (by omega)];omega
    ·split at h2
     ·omega
     ·rw[if_neg (by omega),if_neg (by omega)];exact ih h1 h2
def cmpS (a b:ByteArray):Int:=Lib.compareBytes a.data.toList b.data.toList
theorem toL_inj {a b:ByteArray} (h:a.data.toList=b.data.toList):a=b:=by
 cases a;cases b
 congr 1
 exact Array.toList_inj.1 h
theorem cmpS_zero {a b:ByteArray}:cmpS a b=0↔a=b:=by
 unfold cmpS;constructor
 ·intro h;rcases cb_cases a.data.toList b.data.toList with ⟨h1,_,_⟩ | ⟨_,h1,_⟩ | ⟨h1,_,_⟩
  ·omega
  ·exact toL_inj h1
  ·omega
 ·rintro rfl;rcases cb_cases a.data.toList a.data.toList with ⟨_,_,h1⟩ | ⟨h1,_,_⟩ | ⟨_,_,h1⟩
  ·exact absurd rfl h1
  ·exact h1
  ·exact absurd rfl h1
theorem cmpS_swap (a b:ByteArray):cmpS a b=- cmpS b a:=cb_swap _ _
theorem cmpS_trans {a b c:ByteArray}:cmpS a b<=0->cmpS b c<=0->cmpS a c<=0:=cb_trans _ _ _
def cmpP:List ByteArray->List ByteArray->Int
 | [],[]=>0
 | [],_::_=>-1
 | _::_,[]=>1
 | x::a,y::b=>if cmpS x y=0 then cmpP a b else cmpS x y
theorem cmpP_zero:∀ {a b:List ByteArray},cmpP a b=0↔a=b
 | [],[]=>by simp[cmpP]
 | [],_::_=>by simp[cmpP]
 | _::_,[]=>by simp[cmpP]
 | x::a,y::b=>by
  unfold cmpP;split
  ·rename_i h;rw[cmpS_zero] at h;rw[cmpP_zero,h];simp
  ·rename_i h;simp only[List.cons.injEq,h,false_iff,not_and];intro e;exact absurd (cmpS_zero.2 e) h
theorem cmpP_swap:∀ a b:List ByteArray,cmpP a b=- cmpP b a
 | [],[]=>by simp[cmpP]
 | [],_::_=>by simp[cmpP]
 | _::_,[]=>by simp[cmpP]
 | x::a,y::b=>by
  have ih:=cmpP_swap a b;have h:=cmpS_swap x y;unfold cmpP;by_cases h1:cmpS x y=0
  ·rw[if_pos h1,if_pos (by omega),ih]
  ·rw[if_neg h1,if_neg (by omega),h]
theorem cmpP_trans:∀ {a b c:List ByteArray},cmpP a b<=0->cmpP b c<=0->cmpP a c<=0
 | [],_,[],_,_=>by simp[cmpP]
 | [],_,_::_,_,_=>by simp[cmpP]
 | _::_,[],_,h,_=>by simp[cmpP] at h
 | _::_,_::_,[],_,h=>by simp[cmpP] at h
 | x::a,y::b,z::c,h1,h2=>by
  have ih:=@cmpP_trans a b c;unfold cmpP at h1 h2 ⊢;by_cases e1:cmpS x y=0
  ·rw[if_pos e1] at h1;rw[cmpS_zero] at e1;subst e1;by_cases e2:cmpS x z=0
   ·rw[if_pos e2] at h2 ⊢;exact ih h1 h2
   ·rw[if_neg e2] at h2 ⊢;exact h2
  ·rw[if_neg e1] at h1;by_cases e2:cmpS y z=0
   ·rw[cmpS_zero] at e2;subst e2;rw[if_neg e1];exact h1
   ·rw[if_neg e2] at h2;have h3:=cmpS_trans h1 h2;by_cases e3:cmpS x z=0
    ·rw[cmpS_zero] at e3;subst e3
     have:=cmpS_swap x y
     omega
    ·rw[if_neg e3];exact h3
theorem cmpP_at {a b:List ByteArray} {j:Nat} (ha:j<a.length) (hb:j<b.length):cmpP (a.drop j) (b.drop j)=if cmpS a[j] b[j]=0 then cmpP (a.drop (j+1)) (b.drop (j+1)) else cmpS a[j] b[j]:=by
 rw[List.drop_eq_getElem_cons ha,List.drop_eq_getElem_cons hb];rfl
theorem cmpP_long {a b:List ByteArray} {j:Nat} (ha:j<a.length) (hb:b.length<=j):cmpP (a.drop j) (b.drop j)=1:=by
 rw[List.drop_eq_getElem_cons ha,List.drop_of_length_le hb];rfl
theorem cmpP_short {a b:List ByteArray} {j:Nat} (ha:a.length<=j) (hb:j<b.length):cmpP (a.drop j) (b.drop j)=-1:=by
 rw[List.drop_eq_getElem_cons hb,List.drop_of_length_le ha];rfl
theorem cmpP_done {a b:List ByteArray} {j:Nat} (ha:a.length<=j) (hb:b.length<=j):cmpP (a.drop j) (b.drop j)=0:=by
 rw[List.drop_of_length_le ha,List.drop_of_length_le hb];rfl
def waysP (ts:List T):Nat->ByteArray->List ByteArray->List (List ByteArray)
 | 0,_,_=>[]
 | n+1,tb,a=>(colsAt ts tb).flatMap fun c=>(a++[c.nm])::waysP ts n c.tgt (a++[c.nm])
theorem nodup_of_good {l:List C} (h:colsGood l=true):(l.map C.nm).Nodup:=by
 unfold colsGood at h;rw[List.all_eq_true] at h;rw[List.nodup_iff_pairwise_ne,List.pairwise_iff_getElem];intro i j hi hj hij;rw[List.length_map] at hi hj
 have:=h j (List.mem_range.2 hj)
 unfold colGood at this;rw[List.getElem?_eq_getElem hj] at this;simp only[Bool.and_eq_true,Bool.not_eq_true'] at this;have h2:=this.2;unfold hasC at h2;rw[List.any_eq_false] at h2;have h3:=h2 l[i] (by rw[List.mem_take_iff_getElem];exact⟨i,by omega,rfl⟩);rw[List.getElem_map,List.getElem_map];intro e;exact h3 (by unfold isC;rw[eqS_iff];exact e)
theorem leads_zero {ts:List T} {c:C} (h:leads ts c=0):c.tgt=e0∨∃ u,findT ts c.tgt=some u:=by
 unfold leads at h;split at h
 ·rename_i h1;exact .inl (eqS_iff.1 h1)
 ·right
  cases hf:findT ts c.tgt with
  | none=>rw[hf] at h;simp at h
  | some u=>exact⟨u,rfl⟩
theorem firstErr_zero:∀ {l:List Int},firstErr l=0->∀ x∈l,x=0
 | [],_,x,hx=>by simp at hx
 | a::r,h,x,hx=>by
  unfold firstErr at h;split at h
  ·rename_i h0;rcases List.mem_cons.1 hx with rfl|hx
   ·exact h0
   ·exact firstErr_zero h x hx
  ·rename_i h0;exact absurd h h0
theorem Nice.add {ts:List T} (h:Nice ts) (t:T):Nice (addT ts t):=by
 unfold addT;split
 ·rename_i h0;obtain⟨h1,h2,_,h4⟩:=mayP_zero h0;unfold lim at h1;unfold namesGood at h2;simp only[Bool.or_eq_false_iff,decide_eq_false_iff_not] at h1;simp only[Bool.and_eq_true] at h2;obtain⟨f1,f2,f3,f4⟩:=h2;unfold free at f1;simp only[Bool.and_eq_true,Bool.not_eq_true'] at f1
  have key:∀ u∈ts++[formT t],u∈ts∨u=formT t:=fun u hu=>by
   rw[List.mem_append,List.mem_singleton] at hu;exact hu
  refine⟨fun u hu=>?_,fun u hu=>?_,fun u hu c hc=>?_,fun u hu=>?_⟩
  ·rcases key u hu with hu|rfl
   ·exact h.nm u hu
   ·exact f1.1
  ·rcases key u hu with hu|rfl
   ·exact h.col u hu
   ·have e:(formT t).cols.map C.nm=t.cols.map C.nm:=by
     unfold formT;simp only[List.map_map];rfl
    rw[e];exact nodup_of_good f2
  ·have lift:(c.tgt=e0∨∃ u,findT ts c.tgt=some u)->(c.tgt=e0∨∃ u,findT (ts++[formT t]) c.tgt=some u):=(fun h=>h.imp id (fun ⟨u,hu⟩=>⟨u,find_append_old hu⟩));rcases key u hu with hu|rfl
   ·exact lift (h.tgt u hu c hc)
   ·obtain⟨c',hc',rfl⟩:=List.mem_map.1 hc;exact lift (leads_zero (firstErr_zero h4 _ (List.mem_map_of_mem hc')):c'.tgt=e0∨_)
  ·rcases key u hu with hu|rfl
   ·exact h.few u hu
   ·unfold formT;simp only[List.length_map];omega
 ·exact h
theorem Nice.none {ts:List T} (h:Nice ts):findT ts e0=none:=by
 unfold findT;rw[List.find?_eq_none];intro t ht;unfold isT;rw[named_ne (h.nm t ht)];decide
theorem Nice.noCols {ts:List T} (h:Nice ts):colsAt ts e0=[]:=by
 unfold colsAt;rw[h.none];rfl
theorem col_by {l:List C} (h:(l.map C.nm).Nodup):∀ {c:C},c∈l->colOf l c.nm=some c/\hasC l c.nm=true:=by
 induction l with
 | nil=>intro c hc;simp at hc
 | cons a r ih =>
  intro c hc;rw[List.map_cons,List.nodup_cons] at h
  have hself:hasC (a::r) c.nm=true:=by
   unfold hasC;rw[List.any_eq_true];exact⟨c,hc,by unfold isC;exact eqS_self _⟩
  refine⟨?_,hself⟩;unfold colOf;rw[List.find?_cons];rcases List.mem_cons.1 hc with rfl|hc
  ·have e:isC c.nm c=true:=eqS_self _;rw[e]
  ·have e:isC c.nm a=false:=by
    unfold isC;rw[Bool.eq_false_iff];intro e;rw[eqS_iff] at e;exact h.1 (by rw[e];exact List.mem_map_of_mem hc)
   rw[e];exact (ih h.2 hc).1
theorem col_has {l:List C} {x:ByteArray} (h:hasC l x=true):∃ c∈l,c.nm=x/\orC (colOf l x)=c:=by
 have hc:(colOf l x).isSome=true:=(by unfold colOf;rw[<- find_anyW];exact h);obtain⟨c,hc⟩:=Option.isSome_iff_exists.1 hc;have h1:=List.find?_some hc;unfold isC at h1;exact⟨c,List.mem_of_find?_eq_some hc,eqS_iff.1 h1,by rw[hc];rfl⟩
theorem pcol_no {ts:List T} {tb:ByteArray} (h:colsAt ts tb=[]) (q:List ByteArray):(pcol ts tb q).2.2≠0:=by
 cases q with
 | nil=>simp[pcol]
 | cons x r=>unfold pcol;rw[h];simp[hasC]
theorem mem_ways {ts:List T} (hN:Nice ts):∀ (n:Nat) (tb:ByteArray) (a x:List ByteArray),x∈waysP ts n tb a↔∃ q,x=a++q/\1<=q.length/\q.length<=n/\(pcol ts tb q).2.2=0
 | 0,tb,a,x=>by
  constructor
  ·intro h;simp[waysP] at h
  ·rintro ⟨q,_,h1,h2,_⟩;omega
 | n+1,tb,a,x=>by
  unfold waysP;rw[List.mem_flatMap];constructor
  ·rintro ⟨c,hc,hx⟩;obtain⟨h1,h2⟩:=col_by (hN.cols tb).1 hc;rcases List.mem_cons.1 hx with rfl|hx
   ·refine⟨[c.nm],rfl,Nat.le_refl _,by simp,?_⟩;unfold pcol;rw[if_pos h2];rfl
   ·obtain⟨q,rfl,q1,q2,q3⟩:=(mem_ways hN n _ _ _).1 hx;refine⟨c.nm::q,by simp,by simp,by simpa using q2,?_⟩
    have hne:¬ eqS c.tgt e0=true:=fun e=>by
     rw[eqS_iff] at e;rw[e] at q3;exact pcol_no hN.noCols q q3
    cases q with
    | nil=>simp at q1
    | cons y r =>
     unfold pcol;rw[if_pos h2,h1];show (if (y::r).isEmpty=true then (c,tb,(0:Int)) else if eqS c.tgt e0=true then (zeroC,e0,9) else pcol ts c.tgt (y::r)).2.2=0;rw[if_neg (by simp),if_neg hne];exact q3
  ·rintro ⟨q,rfl,q1,q2,q3⟩;cases q with
   | nil=>simp at q1
   | cons y r =>
    unfold pcol at q3;by_cases h:hasC (colsAt ts tb) y=true
    ·rw[if_pos h] at q3;obtain⟨c,hc,hnm,ho⟩:=col_has h;subst hnm;refine⟨c,hc,?_⟩;rw[List.mem_cons];cases r with
     | nil=>exact .inl rfl
     | cons z r =>
      right
      rw[ho,if_neg (by simp)] at q3;by_cases he:eqS c.tgt e0=true
      ·rw[if_pos he] at q3;simp at q3
      ·rw[if_neg he] at q3;exact (mem_ways hN n _ _ _).2 ⟨z::r,by simp,by simp,by simpa using q2,q3⟩
    ·rw[if_neg h] at q3;simp at q3
theorem nodup_flat {α β:Type} (f:α->List β):∀ (l:List α),(∀ x∈l,(f x).Nodup)->l.Pairwise (fun x y=>∀ b,b∈f x->b ∉ f y)->(l.flatMap f).Nodup
 | [],_,_=>by simp
 | a::r,h,hp=>by
  rw[List.pairwise_cons] at hp;rw[List.flatMap_cons,List.nodup_append];refine⟨h a (by simp),nodup_flat f r (fun x hx=>h x (by simp[hx])) hp.2,?_⟩;intro x hx y hy e;subst e;rw[List.mem_flatMap] at hy;obtain⟨z,hz,hxz⟩:=hy;exact hp.1 z hz x hx hxz
theorem ways_form {ts:List T} (hN:Nice ts) {n:Nat} {tb:ByteArray} {a:List ByteArray} {c:C} {x:List ByteArray} (hx:x∈(a++[c.nm])::waysP ts n tb (a++[c.nm])):∃ r,x=a++c.nm::r:=by
 rcases List.mem_cons.1 hx with rfl|hx
 ·exact⟨[],rfl⟩
 ·obtain⟨q,rfl,_⟩:=(mem_ways hN _ _ _ _).1 hx;exact⟨q,by simp⟩
theorem nodup_ways {ts:List T} (hN:Nice ts):∀ (n:Nat) (tb:ByteArray) (a:List ByteArray),(waysP ts n tb a).Nodup
 | 0,_,_=>by simp[waysP]
 | n+1,tb,a=>by
  unfold waysP;refine nodup_flat _ _ (fun c _=>?_) ?_
  ·rw[List.nodup_cons];refine⟨fun hm=>?_,nodup_ways hN n _ _⟩;obtain⟨q,e,h1,_⟩:=(mem_ways hN _ _ _ _).1 hm
   have:=congrArg List.length e
   rw[List.length_append (bs:=q)] at this;omega
  ·have:=(hN.cols tb).1
   rw[List.nodup_iff_pairwise_ne,List.pairwise_map] at this;refine this.imp ?_;intro c d hne x hx hy;obtain⟨r,rfl⟩:=ways_form hN hx;obtain⟨r',e⟩:=ways_form hN hy
   have:=List.append_cancel_left e
   simp only[List.cons.injEq] at this;exact hne this.1
def manyW:Nat->Nat
 | 0=>0
 | n+1=>6*(1+manyW n)
theorem ways_len {ts:List T} (hN:Nice ts):∀ (n:Nat) (tb:ByteArray) (a:List ByteArray),(waysP ts n tb a).length<=manyW n
 | 0,_,_=>by simp[waysP]
 | n+1,tb,a=>by
  unfold waysP manyW;rw[List.length_flatMap];refine Nat.le_trans (sum_leW _ (1+manyW n) _ (fun c _=>?_)) (Nat.mul_le_mul_right _ (hN.cols tb).2.1);rw[List.length_cons]
  have:=ways_len hN n c.tgt (a++[c.nm])
  omega
def IsAll (ts:List T) (tb:ByteArray) (l:List (List ByteArray)):Prop:=l.Pairwise (fun a b=>cmpP a b<0)/\l.Perm (waysP ts 4 tb [])
