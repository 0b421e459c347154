import Derived.Test.YtgbkmjnnlkgpnaaGreatZb50
import Derived.Test.YtgbkmjnnlkgpnaaGreatZb51
set_option maxHeartbeats 8000000
set_option maxRecDepth 100000
namespace Go.Proofs.YtgbkmjnnlkgpnaaGreat
open Go Go.RowKit Go.Proofs Co Co.S
section
variable {K:Nat->Prop} {W0 w:World} {d b m j:Nat} {ts:List T} {ps:List Nat} {L L1 L2:List PT} {S:Nat->Prop} {vv:Value} {o:OpX}
theorem doE_none (hf:formedP o.dO o.vals.length=true) (h:ixT ts o.tbl<0):doE ts L1 o=(0,3):=by
 unfold doE;rw[if_neg (by rw[hf];decide)];split
 ·rw[if_pos h]
 ·rfl
theorem doE_at (hf:formedP o.dO o.vals.length=true) (h:ixT ts o.tbl=(j:Int)) (hj:j<ts.length) (hL:j<L1.length):doE ts L1 o=if o.dO=1 then (insN ts[j] L1[j] o.vals,insE ts[j] o.vals) else if o.dO=2 then (0,if hasId L1[j].2 o.id=true then 0 else 6) else (0,setE ts[j] L1[j].2 o.id o.col (o.vals.getD 0 z3)):=by
 unfold doE;rw[if_neg (by rw[hf];decide),h];simp only[Int.toNat_natCast,List.getElem?_eq_getElem hj,List.getElem?_eq_getElem hL];rw[if_neg (by omega)]
theorem formedP_cases {k:Int} {n:Nat} (h:formedP k n=true):k=1∨k=2∨(k=3/\n=1):=by
 unfold formedP at h;split at h
 ·rename_i h1;rcases h1 with h1|h1
  ·exact .inl h1
  ·exact .inr (.inl h1)
 ·split at h
  ·rename_i h2;exact .inr (.inr ⟨h2,of_decide_eq_true h⟩)
  ·cases h
theorem inv_val0 (hv:InV S w vv o.vals) (h1:o.vals.length=1):∃ vb vo c,vv=.slice (some ⟨vb,vo,none⟩) 1 c/\∀ w1,Below w.heap.size w w1->w1.cell? ⟨vb,vo,none⟩=some (.int .i64 (o.vals.getD 0 z3).1)/\w1.cell? ⟨vb,vo+1,none⟩=some (.int .i64 (o.vals.getD 0 z3).2.1)/\w1.cell? ⟨vb,vo+2,none⟩=some (.string (o.vals.getD 0 z3).2.2)/\vb<w1.heap.size:=by
 obtain⟨p,c,rfl,_,_⟩:=hv.slice;obtain⟨vb,vo,rfl,_,_⟩:=InV.val hv (j:=0) (by omega);have hu0:o.vals[0]'(by omega)=o.vals.getD 0 z3:=(by rw[List.getD_eq_getElem?_getD,List.getElem?_eq_getElem (by omega)];rfl);refine⟨vb,vo,c,by rw[h1],fun w1 hw=>?_⟩;obtain⟨b',o',e,q1,q2,q3,q4⟩:=InV.val (hv.later hw) (j:=0) (by omega);cases e;rw[hu0] at q2 q3 q4;exact⟨q2,q3,q4,q1⟩
theorem do_any (h:PD K W0 w d b ts ps L1 L2) (hfew:AllFew ts) (hsz:Short ts) (hcs:∀ t∈ts,0<t.cols.length/\t.cols.length<=1000) (hsm:∀ x∈L1,SmP m x) (hm:m<=390) (hok:OpOk o) (hv:InV S w vv o.vals) (hS:∀ q,S q->K q) :
  Calls Tryz.prog 43 #[(Value.pointer (some ⟨d,0,none⟩)),.agg #[.int .i64 o.dO,.string o.tbl,.int .i64 o.id,.string o.col,vv]] w fun e w'=>e=.returned (.tuple #[.int .i64 (doE ts L1 o).1,.int .i64 (doE ts L1 o).2])/\PD K W0 w' d b ts ps (do1 ts L1 o) L2:=by
 cases hf:formedP o.dO o.vals.length with
 | false=>exact do_unformed h hv hf
 | true =>
  rcases ixT_cases ts o.tbl with ⟨e1,e2,_⟩ | ⟨t,ht,e1,e2,e3⟩
  ·rw[doE_none hf (by rw[e1];decide)];unfold do1;rw[if_pos hf,fill1_neg (by rw[e1];decide)];obtain⟨p,c,rfl,_,_⟩:=hv.slice;refine do_none0 (Q:=fun w'=>PD K W0 w' d b ts ps L1 L2) hf (fun w1 hw=>?_);have h1:=h.later hw;obtain⟨st,O,hD,_⟩:=h1.dd;exact (hD.notable hfew hok.tbl e2).mono (fun e w' ⟨q1,q2⟩=>⟨q1,h1.later q2⟩)
  ·have hp:t<ps.length:=(by rw[h.len.1];exact ht);have hA:t<L1.length:=(by rw[h.len.2.1];exact ht);have hnm:ts[t].nm=o.tbl:=nm_of_find e3
   have htab:∀ w1,Below w.heap.size w w1->Calls Tryz.prog 29 #[(Value.pointer (some ⟨d,0,none⟩)),.string o.tbl] w1 fun e w'=>e=.returned (Value.pointer (some ⟨ps[t],0,none⟩))/\w'=w1:=fun w1 hw=>by
    have:=(h.later hw).table ht (hsz _ (List.getElem_mem ht)) hp
    rw[hnm] at this;exact this
   rw[doE_at hf e1 ht hA];unfold do1;rw[if_pos hf,fill1_at e1 ht hA];have hcc:=hcs _ (List.getElem_mem ht);have hsA:=hsm _ (List.getElem_mem hA);rcases formedP_cases hf with h1|h1|⟨h1,h2⟩
   ·rw[if_pos h1,if_pos h1,h1];obtain⟨p,c,rfl,_,_⟩:=hv.slice;exact do_ins0 (Q:=fun w'=>PD K W0 w' d b ts ps _ L2) htab (fun w1 hw=>(h.later hw).insD ht hp hA (hv.later hw) hS hsA hm hcc.2 hok.vals (by have:=hok.few;omega))
   ·have hne:¬ o.dO=1:=(by omega);rw[if_neg hne,if_neg hne,if_pos h1,if_pos h1,h1];obtain⟨p,c,rfl,_,_⟩:=hv.slice;exact do_del0 (Q:=fun w'=>PD K W0 w' d b ts ps _ L2) htab (fun w1 hw=>(h.later hw).delD ht hp hA hok.id hsA hm hcc.2)
   ·have hne:¬ o.dO=1:=(by omega);have hne2:¬ o.dO=2:=(by omega);rw[if_neg hne,if_neg hne,if_neg hne2,if_neg hne2,if_pos h2,h1];obtain⟨vb,vo,c,rfl,hrd⟩:=inv_val0 hv h2
    have hus:(o.vals.getD 0 z3).2.2.size<=maxLen:=by
     rw[List.getD_eq_getElem?_getD,List.getElem?_eq_getElem (by omega)];exact hok.vals _ (List.getElem_mem _)
    exact do_set0 (Q:=fun w'=>PD K W0 w' d b ts ps _ L2) hrd htab (fun w1 hw=>(h.later hw).setD ht hp hA hok.id o.col _ hus hsA hm)
theorem one_any (h:PD K W0 w d b ts ps L1 L2) (hcs:∀ t∈ts,0<t.cols.length/\t.cols.length<=1000) (hsm:∀ x∈L2,SmP m x) (hm:m<=390) (hok:OpOk o) (hv:InV S w vv o.vals) (hS:∀ q,S q->K q) :
  Calls Tryz.prog 44 #[(Value.pointer (some ⟨b,0,none⟩)),.agg #[.int .i64 o.dO,.string o.tbl,.int .i64 o.id,.string o.col,vv]] w fun e w'=>e=.returned (.tuple #[.int .i64 (doE ts L2 o).1,.int .i64 (doE ts L2 o).2])/\PD K W0 w' d b ts ps L1 (do1 ts L2 o):=by
 cases hf:formedP o.dO o.vals.length with
 | false =>
  unfold doE do1;rw[if_pos hf,if_neg (by rw[hf];decide)];obtain⟨p,c,rfl,_,_⟩:=hv.slice;exact (one_unformed hf).mono (fun e w' ⟨q1,q2⟩=>⟨q1,h.later q2⟩)
 | true =>
  obtain⟨tt0,i0,Ob0,hDN,hL0⟩:=h.dbn;have hfind:∀ w1,Below w.heap.size w w1->w1.cell? ⟨b,0,none⟩=some i0.sv/\b<w1.heap.size/\Calls Tryz.prog 34 #[i0.sv,.string o.tbl] w1 fun e w'=>e=.returned (.int .i64 (ixT ts o.tbl))/\w'=w1:=fun w1 hw=>⟨nd_cell (heap_on hw hDN.box) 0,lt_of_heap (heap_on hw hDN.box),rfind_any (hDN.later hw).rdTs⟩
  rcases ixT_cases ts o.tbl with ⟨e1,e2,_⟩ | ⟨t,ht,e1,e2,e3⟩
  ·rw[doE_none hf (by rw[e1];decide)];unfold do1;rw[if_pos hf,fill1_neg (by rw[e1];decide)];obtain⟨p,c,rfl,_,_⟩:=hv.slice;rw[e1] at hfind;rcases formedP_cases hf with h1|h1|⟨h1,h2⟩
   ·rw[h1];exact (one_none1 hfind).mono (fun e w' ⟨q1,q2⟩=>⟨q1,h.later q2⟩)
   ·rw[h1];exact (one_none2 hfind).mono (fun e w' ⟨q1,q2⟩=>⟨q1,h.later q2⟩)
   ·rw[h1,h2];exact (one_none3 hfind).mono (fun e w' ⟨q1,q2⟩=>⟨q1,h.later q2⟩)
  ·have hA:t<L2.length:=(by rw[h.len.2.2];exact ht);rw[e1] at hfind;rw[doE_at hf e1 ht hA];unfold do1;rw[if_pos hf,fill1_at e1 ht hA];have hcc:=hcs _ (List.getElem_mem ht);have hsA:=hsm _ (List.getElem_mem hA);rcases formedP_cases hf with h1|h1|⟨h1,h2⟩
   ·rw[if_pos h1,if_pos h1,h1];obtain⟨p,c,rfl,_,_⟩:=hv.slice;exact one_ins (Q:=fun w'=>PD K W0 w' d b ts ps L1 _) hfind (fun w1 hw=>(h.later hw).insN ht hA (hv.later hw) hS hsA hm hcc.2 hcc.1 hok.vals (by have:=hok.few;omega))
   ·have hne:¬ o.dO=1:=(by omega);rw[if_neg hne,if_neg hne,if_pos h1,if_pos h1,h1];obtain⟨p,c,rfl,_,_⟩:=hv.slice;exact one_del (Q:=fun w'=>PD K W0 w' d b ts ps L1 _) hfind (fun w1 hw=>(h.later hw).delN ht hA o.id hsA hm)
   ·have hne:¬ o.dO=1:=(by omega);have hne2:¬ o.dO=2:=(by omega);rw[if_neg hne,if_neg hne,if_neg hne2,if_neg hne2,if_pos h2,h1];obtain⟨vb,vo,c,rfl,hrd⟩:=inv_val0 hv h2
    have hus:(o.vals.getD 0 z3).2.2.size<=maxLen:=by
     rw[List.getD_eq_getElem?_getD,List.getElem?_eq_getElem (by omega)];exact hok.vals _ (List.getElem_mem _)
    exact one_set (Q:=fun w'=>PD K W0 w' d b ts ps L1 _) hfind hrd (fun w1 hw=>(h.later hw).setN ht hA o.id o.col _ hus hcc.1 hsA hm)
theorem do1_sm (h:∀ x∈L,SmP m x):∀ x∈do1 ts L o,SmP (m+1) x:=by
 unfold do1;split
 ·exact fill1_sm h
 ·exact fun x hx=>(h x hx).mono (by omega)
theorem do1_len:(do1 ts L o).length=L.length:=by
 unfold do1;split
 ·exact fill1_len
 ·rfl
end
structure Out where
 rows:List PT
 ids:List Int
 err:Int
 place:Int
 tbl:ByteArray
def runB (ts:List T):List PT->Nat->List Int->List OpX->Out
 | L,_,ids,[]=>⟨L,ids,0,0,e0⟩
 | L,k,ids,o::l=>if (doE ts L o).2=0 then runB ts (do1 ts L o) (k+1) (if o.dO=1 then ids++[(doE ts L o).1] else ids) l else ⟨do1 ts L o,[],(doE ts L o).2,(k:Int),o.tbl⟩
def applyB (ts:List T) (L:List PT) (l:List OpX):Out:=if l.length=0∨40<l.length then ⟨L,[],5,0,e0⟩ else runB ts L 0 [] l
section
variable {ts:List T} {L:List PT} {l:List OpX} {ids:List Int} {k j m:Nat}
theorem runB_ok (hj:j<l.length) (h:(doE ts L l[j]).2=0):runB ts L k ids (l.drop j)=runB ts (do1 ts L l[j]) (k+1) (if l[j].dO=1 then ids++[(doE ts L l[j]).1] else ids) (l.drop (j+1)):=by
 rw[List.drop_eq_getElem_cons hj,runB,if_pos h]
theorem runB_no (hj:j<l.length) (h:(doE ts L l[j]).2≠0):runB ts L k ids (l.drop j)=⟨do1 ts L l[j],[],(doE ts L l[j]).2,(k:Int),l[j].tbl⟩:=by
 rw[List.drop_eq_getElem_cons hj,runB,if_neg h]
theorem runB_end (hj:l.length<=j):runB ts L k ids (l.drop j)=⟨L,ids,0,0,e0⟩:=by
 rw[List.drop_of_length_le hj,runB]
theorem runB_sm:∀ {l:List OpX} {L:List PT} {k m:Nat} {ids:List Int},(∀ x∈L,SmP m x)->∀ x∈(runB ts L k ids l).rows,SmP (m+l.length) x
 | [],L,k,m,ids,h=>by rw[runB];exact h
 | o::l,L,k,m,ids,h=>by
  rw[runB];split
  ·intro x hx
   have:=runB_sm (do1_sm (ts:=ts) (o:=o) h) x hx
   rw[List.length_cons];exact this.mono (by omega)
  ·intro x hx
   have:=do1_sm (ts:=ts) (o:=o) h x hx
   rw[List.length_cons];exact this.mono (by omega)
theorem applyB_sm (h:∀ x∈L,SmP m x):∀ x∈(applyB ts L l).rows,SmP (m+l.length) x:=by
 unfold applyB;split
 ·exact fun x hx=>(h x hx).mono (by omega)
 ·exact runB_sm h
end
abbrev zF:Array Value:=#[.int .i64 0,.int .i64 0,.string e0,.int .i64 0,.string e0]
abbrev fltV (e a:Int) (t:ByteArray) (r:Int) (c:ByteArray):Value:=.agg #[.int .i64 e,.int .i64 a,.string t,.int .i64 r,.string c]
theorem set5 {x:World} {b:Nat} {a0 a1 a2 a3 a4:Value} {t:TypeId} (h:x.heap[b]?=some (.cells #[a0,a1,a2,a3,a4] t)) (a c d e f:Value) :
  (((((x.setCell ⟨b,0,none⟩ a).setCell ⟨b,1,none⟩ c).setCell ⟨b,2,none⟩ d).setCell ⟨b,3,none⟩ e).setCell ⟨b,4,none⟩ f).heap[b]?=some (.cells #[a,c,d,e,f] t):=by
 rw[heap_setCell_same _ b 4 #[a,c,d,e,a4] t f (heap_setCell_same _ b 3 #[a,c,d,a3,a4] t e (heap_setCell_same _ b 2 #[a,c,a2,a3,a4] t d (heap_setCell_same _ b 1 #[a,a1,a2,a3,a4] t c (heap_setCell_same _ b 0 #[a0,a1,a2,a3,a4] t a h))))];rfl
theorem grown_set1 {A w:World} {g:Nat} (h:A.grownBy w (some g)) (j:Nat) (a:Value):A.grownBy (w.setCell ⟨g,j,none⟩ a) (some g) :=
 ⟨h.os,h.tape,h.output,by simpa using h.size,fun q hq hne=>by
  rw[heap_setCell_other w ⟨g,j,none⟩ q a (fun e=>hne (by rw[e]))];exact h.block q hq hne⟩
theorem grown_refl (w:World) (o:Option Nat):w.grownBy w o:=⟨rfl,rfl,rfl,Nat.le_refl _,fun _ _ _=>rfl⟩
theorem grown_set5 (w:World) (g:Nat) (a b c d e:Value):w.grownBy (((((w.setCell ⟨g,0,none⟩ a).setCell ⟨g,1,none⟩ b).setCell ⟨g,2,none⟩ c).setCell ⟨g,3,none⟩ d).setCell ⟨g,4,none⟩ e) (some g) :=
 grown_set1 (grown_set1 (grown_set1 (grown_set1 (grown_set1 (grown_refl w (some g)) 0 a) 1 b) 2 c) 3 d) 4 e
section
variable {K Kx:Nat->Prop} {W0 wx w w':World} {d b R:Nat} {ts:List T} {ps:List Nat} {L1 L2:List PT} {S:Nat->Prop} {ids:List Int} {idv:Value}
structure OpsK (K:Nat->Prop) (W0:World) (tv:Value) (L:List OpX):Prop where
 sl:∃ p cap,tv=.slice p L.length cap
 rd:∀ j (hj:j<L.length),∃ g cap vv,tv=.slice (some ⟨g,0,none⟩) L.length cap/\∀ w:World,(∀ q,K q->w.heap[q]?=W0.heap[q]?) ->
   (w.cell? ⟨g,j*5,none⟩=some (.int .i64 L[j].dO)/\w.cell? ⟨g,j*5+1,none⟩=some (.string L[j].tbl)/\w.cell? ⟨g,j*5+2,none⟩=some (.int .i64 L[j].id)/\w.cell? ⟨g,j*5+3,none⟩=some (.string L[j].col)/\w.cell? ⟨g,j*5+4,none⟩=some vv/\g<w.heap.size)/\InV K w vv L[j].vals
theorem OpsK.of {base:Nat} {tv:Value} {L:List OpX} (ho:OpsO W0 base tv L) (hK:∀ q,base<=q->q<W0.heap.size->K q):OpsK K W0 tv L:=by
 refine⟨?_,fun j hj=>?_⟩
 ·obtain⟨sv,_,h3,_⟩:=ho;obtain⟨p,cap,e,_,_⟩:=h3.isslice;exact⟨p,cap,e⟩
 ·obtain⟨g,cap,vv,e,hr⟩:=ops_read ho hK hj;exact⟨g,cap,vv,e,fun w hw=>⟨(hr w hw).1,(hr w hw).2.2⟩⟩
theorem OpsK.move {tv:Value} {L:List OpX} (h:OpsK K W0 tv L) (hk:∀ q,K q->Kx q) (hw:∀ q,K q->wx.heap[q]?=W0.heap[q]?):OpsK Kx wx tv L:=by
 refine⟨h.sl,fun j hj=>?_⟩;obtain⟨g,cap,vv,e,hr⟩:=h.rd j hj;refine⟨g,cap,vv,e,fun w hq=>?_⟩;obtain⟨k1,k2⟩:=hr w (fun q h2=>(hq q (hk q h2)).trans (hw q h2));exact⟨k1,k2.mono (fun q _ h2=>hk q h2)⟩
theorem PD.tn2 (h:PD K w w d b ts ps L1 L2) (hT:Tn S w w') (hS:∀ q,q<w.heap.size->S q->K q) :
  PD (fun q=>K q∨(w.heap.size<=q/\q<w'.heap.size)) w' w' d b ts ps L1 L2/\PD (fun q=>K q/\¬ S q) w w' d b ts ps L1 L2:=by
 obtain⟨st,tt,⟨Od,Ob,i,h1,h2,h3,h4,h5⟩,e⟩:=h;have hT2:Tn (fun q=>S q/\q<w.heap.size) w w':=hT.mono (fun q hl hq=>⟨hq,hl⟩);have k1:=h1.tn hT2 (fun q hq=>(h4 q (hS q hq.2 hq.1)).2.1);have k2:=h2.tn hT2 (fun q hq=>(h4 q (hS q hq.2 hq.1)).2.2);have hz:=hT.size;refine⟨⟨st,tt,⟨Od,Ob,i,k1,k2,h3,fun q hq=>?_,Tn.refl _ _⟩,e⟩,⟨st,tt,⟨Od,Ob,i,k1,k2,h3,fun q hq=>h4 q hq.1,hT.mono (fun q hl hq hn=>hn.2 hq)⟩,e⟩⟩;rcases hq with hq|⟨q1,q2⟩
 ·obtain⟨a1,a2,a3⟩:=h4 q hq;exact⟨by omega,a2,a3⟩
 ·exact⟨q2,Classical.byContradiction fun hn=>by have:=h1.lt q hn;omega,Classical.byContradiction fun hn=>by have:=h2.lt q hn;omega⟩
theorem PD.klt (h:PD K W0 w d b ts ps L1 L2) {q:Nat} (hq:K q):q<W0.heap.size:=by
 obtain⟨st,tt,⟨Od,Ob,i,h1,h2,h3,h4,h5⟩,e⟩:=h;exact (h4 q hq).1
structure ApK (K:Nat->Prop) (W0:World) (d b:Nat) (ts:List T) (ps:List Nat) (R:Nat) (ids:List Int) (idv:Value) (Kx:Nat->Prop) (wx:World):Prop where
 kk:∀ q,K q->Kx q
 kr:Kx R
 r:wx.heap[R]?=some (.cells zF 33)
 row:Ro wx (R+1) idv ids
 kb:∀ q,idv.ownBlock=some q->Kx q
 back:∀ w2 X Y,PD Kx wx w2 d b ts ps X Y->PD K W0 w2 d b ts ps X Y
 lo:W0.heap.size<=R
theorem ApK.next (h:ApK K W0 d b ts ps R ids idv Kx wx) (hP:PD Kx wx w d b ts ps L1 L2) (hb:Below w.heap.size w w') :
  ApK K W0 d b ts ps R ids idv (fun q=>Kx q∨(w.heap.size<=q/\q<w'.heap.size)) w'/\PD (fun q=>Kx q∨(w.heap.size<=q/\q<w'.heap.size)) w' w' d b ts ps L1 L2:=by
 have hr:=(hP.still h.kr).trans h.r;exact⟨⟨fun q hq=>.inl (h.kk q hq),.inl h.kr,heap_on hb hr,(h.row.of (fun q hq=>hP.still (h.kb q hq))).later hb,fun q hq=>.inl (h.kb q hq),fun w2 X Y h2=>h.back _ _ _ ((hP.later hb).back h2 (fun q hq=>.inl hq)),h.lo⟩,hP.with hb⟩
theorem ApK.app (h:ApK K W0 d b ts ps R ids idv Kx wx) (hP:PD Kx wx w d b ts ps L1 L2) {ids':List Int} {v':Value} (hr:Ro w' (R+1) v' ids') (hg:w.grownBy w' idv.ownBlock) (ho:∀ q,v'.ownBlock=some q->idv.ownBlock=some q∨w.heap.size<=q) :
  ∃ Kx',ApK K W0 d b ts ps R ids' v' Kx' w'/\PD Kx' w' w' d b ts ps L1 L2:=by
 have hrow:=h.row.of (w':=w) (fun q hq=>hP.still (h.kb q hq))
 have hT:Tn (fun q=>idv.ownBlock=some q) w w':=Tn.of_chg ⟨hg.os,hg.tape,hg.output,hg.size,fun q hq hn=>hg.block q hq (fun e=>hn e.symm)⟩ (fun q _ hq=>by
  obtain⟨_,cur,e⟩:=HRow.block hrow q hq;exact .inl ⟨cur,3,e,rfl⟩)
 have h0:=hP.with (Below.refl _ w);obtain⟨p1,p2⟩:=h0.tn2 hT (fun q _ hq=>.inl (h.kb q hq));have hRq:idv.ownBlock≠some R:=(fun e=>by have:=(HRow.lt h.row R e).1;omega);have hR:=(hP.still h.kr).trans h.r;refine⟨_,⟨fun q hq=>.inl (.inl (h.kk q hq)),.inl (.inl h.kr),(hg.block R (lt_of_heap hR) (fun e=>hRq e.symm)).trans hR,hr,fun q hq=>?_,fun w2 X Y h2=>?_,h.lo⟩,p1⟩
 ·rcases ho q hq with e|e
  ·exact .inl (.inl (h.kb q e))
  ·exact .inr ⟨e,(HRow.lt hr q hq).2⟩
 ·have k0:=h.back _ _ _ hP;exact (k0.back p2 (fun q hq=>⟨.inl (h.kk q hq),fun e=>by have h1:=(HRow.lt h.row q e).1;have h2:=k0.klt hq;have h3:=h.lo;omega⟩)).back h2 (fun q hq=>.inl (.inl (h.kk q hq)))
theorem ApK.fin (h:ApK K W0 d b ts ps R ids idv Kx wx) (hP:PD Kx wx w d b ts ps L1 L2) (hg:w.grownBy w' (some R)) :
  ∃ Kx',(∀ q,K q->Kx' q)/\Ro w' (R+1) idv ids/\(∀ q,idv.ownBlock=some q->Kx' q)/\PD Kx' w' w' d b ts ps L1 L2/\PD K W0 w' d b ts ps L1 L2:=by
 have hR:=(hP.still h.kr).trans h.r
 have hT:Tn (fun q=>q=R) w w':=Tn.of_chg ⟨hg.os,hg.tape,hg.output,hg.size,fun q hq hn=>hg.block q hq (fun e=>hn (by cases e;rfl))⟩ (fun q _ hq=>by
  rw[hq];exact .inl ⟨_,33,hR,rfl⟩)
 have h0:=hP.with (Below.refl _ w);obtain⟨p1,p2⟩:=h0.tn2 hT (fun q _ hq=>.inl (hq▸h.kr));have k0:=h.back _ _ _ hP;refine⟨_,fun q hq=>.inl (.inl (h.kk q hq)),(h.row.of (w':=w) (fun q hq=>hP.still (h.kb q hq))).of (fun q hq=>?_),fun q hq=>.inl (.inl (h.kb q hq)),p1,k0.back p2 (fun q hq=>⟨.inl (h.kk q hq),fun e=>by have h2:=k0.klt hq;have h3:=h.lo;omega⟩)⟩;have h1:=HRow.lt (h.row.of (w':=w) (fun q hq=>hP.still (h.kb q hq))) q hq;exact hg.block q h1.2 (fun e=>by cases e;omega)
end
theorem apply_any {K:Nat->Prop} {W0 w0:World} {d b:Nat} {ts:List T} {ps:List Nat} {L1 L2:List PT} {tv:Value} {ops:List OpX} {m:Nat} (h:PD K W0 w0 d b ts ps L1 L2) (ho:OpsK K W0 tv ops) (hfew:AllFew ts) (hsz:Short ts) (hcs:∀ t∈ts,0<t.cols.length/\t.cols.length<=1000)
  (h1:∀ x∈L1,SmP m x) (hm:m+ops.length<=390) (hops:∀ o∈ops,OpOk o) :
  Calls Tryz.prog 15 #[(Value.pointer (some ⟨d,0,none⟩)),tv] w0 fun e w'=>∃ idv Kx,e=.returned (.tuple #[idv,fltV (applyB ts L1 ops).err (applyB ts L1 ops).place (applyB ts L1 ops).tbl 0 e0])/\(∀ q,K q->Kx q)/\Ro w' 0 idv (applyB ts L1 ops).ids/\(∀ q,idv.ownBlock=some q->Kx q)/\PD Kx w' w' d b ts ps (applyB ts L1 ops).rows L2/\PD K W0 w' d b ts ps (applyB ts L1 ops).rows L2:=by
 obtain⟨p,cap,rfl⟩:=ho.sl;have hread:=(fun {j:Nat} (hj:j<ops.length)=>ho.rd j hj);obtain⟨n,hn⟩:∃ n,ops.length=n:=⟨_,rfl⟩;have HREAD:Hid (∀ j (hj:j<ops.length),_):=Lib.hid (fun j hj=>hread hj);have hb1:=below_alloc w0 (.cells zF 33);have k1:=heap_alloc_new w0 (.cells zF 33);obtain⟨w1,hw1⟩:∃ w1,w0.alloc (.cells zF 33)=w1:=⟨_,rfl⟩;obtain⟨R,hR⟩:∃ R,w0.heap.size=R:=⟨_,rfl⟩;have hz1:w1.heap.size=R+1:=by rw[<- hw1,<- hR,World.size_alloc]
 have hlo:W0.heap.size<=R:=by
  obtain⟨_,_,⟨_,_,_,_,_,_,_,hT⟩,_⟩:=h;rw[<- hR];exact hT.size
 rw[hw1] at hb1 k1;have hP1:=h.with hb1;have hA1:ApK K W0 d b ts ps R [] (.slice none 0 0) (fun q=>K q∨(w0.heap.size<=q/\q<w1.heap.size)) w1:=⟨fun q hq=>.inl hq,.inr ⟨by omega,by omega⟩,by rw[<- hR];exact k1,HRow.nil,fun q hq=>(by cases hq),fun w2 X Y h2=>(h.later hb1).back h2 (fun q hq=>.inl hq),hlo⟩;obtain⟨K1,hK1⟩:∃ K1:Nat->Prop,(fun q=>K q∨(w0.heap.size<=q/\q<w1.heap.size))=K1:=⟨_,rfl⟩;rw[hK1] at hP1 hA1;rw[hR] at k1;have HF:=Lib.hid (And.intro hfew (And.intro hsz (And.intro hcs (And.intro hm (And.intro hops hn)))));have H1:=Lib.hid (And.intro hA1 (And.intro hP1 (And.intro h1 (And.intro k1 (And.intro hw1 hR)))));obtain⟨out,hout⟩:∃ out,applyB ts L1 ops=out:=⟨_,rfl⟩;rw[hout,hn];have HOUT:=Lib.hid hout
 have FIN:Hid (∀ (w2 wz:World) (ids:List Int) (idv:Value) (Kx:Nat->Prop) (wx:World) (X Y:List PT) (v0 v1 v2 v3 v4:Value),ApK K W0 d b ts ps R ids idv Kx wx->PD Kx wx w2 d b ts ps X Y->((((w2.setCell ⟨R,0,none⟩ v0).setCell ⟨R,1,none⟩ v1).setCell ⟨R,2,none⟩ v2).setCell ⟨R,3,none⟩ v3).setCell ⟨R,4,none⟩ v4=wz ->
   (wz.cell? ⟨R,0,none⟩=some v0/\wz.cell? ⟨R,1,none⟩=some v1/\wz.cell? ⟨R,2,none⟩=some v2/\wz.cell? ⟨R,3,none⟩=some v3/\wz.cell? ⟨R,4,none⟩=some v4)/\∃ Kx',(∀ q,K q->Kx' q)/\Ro wz 0 idv ids/\(∀ q,idv.ownBlock=some q->Kx' q)/\PD Kx' wz wz d b ts ps X Y/\PD K W0 wz d b ts ps X Y):=Lib.hid (by
  rintro w2 wz ids idv Kx wx X Y v0 v1 v2 v3 v4 hA hP rfl;have hr:=(hP.still hA.kr).trans hA.r;have h5:=set5 hr v0 v1 v2 v3 v4;refine⟨⟨nd_cell h5 0,nd_cell h5 1,nd_cell h5 2,nd_cell h5 3,nd_cell h5 4⟩,?_⟩;obtain⟨Kx',q1,q2,q3,q4,q5⟩:=hA.fin hP (grown_set5 w2 R v0 v1 v2 v3 v4);exact⟨Kx',q1,q2.mono (Nat.zero_le _),q3,q4,q5⟩)
 have CELLS:Hid (∀ (w2:World) (ids:List Int) (idv:Value) (Kx:Nat->Prop) (wx:World) (X Y:List PT),ApK K W0 d b ts ps R ids idv Kx wx->PD Kx wx w2 d b ts ps X Y->w2.heap[R]?=some (.cells zF 33)):=Lib.hid (fun w2 ids idv Kx wx X Y hA hP=>(hP.still hA.kr).trans hA.r);clear h ho hfew hsz hcs h1 hm hops hn hread hb1 k1 hw1 hz1 hR hlo hP1 hA1 hK1 hout;have hni:(n:Int)<=390:=(by have h1:=HF.out.2.2.2.1;have h2:=HF.out.2.2.2.2.2;omega);go_enter Tryz.func15,Tryz.ntmps15;go_upto_region 1 with fail;rw[H1.out.2.2.2.2.1,H1.out.2.2.2.2.2];by_cases hlim:n=0∨40<n
 ·obtain rfl:(⟨L1,[],5,0,e0⟩:Out)=out:=by
   have h1:=HOUT.out;unfold applyB at h1;rw[if_pos (by rw[HF.out.2.2.2.2.2];exact hlim)] at h1;exact h1
  have hc:=CELLS.out _ _ _ _ _ _ _ H1.out.1 H1.out.2.1;have x0:=nd_cell hc 0;have x1:=nd_cell hc 1;have x2:=nd_cell hc 2;have x3:=nd_cell hc 3;have x4:=nd_cell hc 4;have xf:=(fun i=>frozen_of_row w1 R i _ _ hc);have xl:=lt_of_heap hc;clear hc;rcases hlim with rfl|hlim
  ·go_wp2_with fail;generalize hwz:((((World.setCell _ _ _).setCell _ _).setCell _ _).setCell _ _).setCell _ _=wz;obtain⟨⟨y0,y1,y2,y3,y4⟩,Kx',q1,q2,q3,q4,q5⟩:=FIN.out _ _ _ _ _ _ _ _ _ _ _ _ _ H1.out.1 H1.out.2.1 hwz;refine bodyPost_ret (v:=.tuple #[.slice none 0 0,fltV 5 0 e0 0 e0]) (by simp[results,Tryz.results15,go_sem,y0,y1,y2,y3,y4]) rfl ?_;exact⟨_,rfl,Kx',q1,q2,q3,q4,q5⟩
  ·have hb0:((n:Int)==0)=false:=beq_eq_false_iff_ne.2 (by omega);have hb1:(n:Int)>40:=(by omega);go_wp2_with fail;generalize hwz:((((World.setCell _ _ _).setCell _ _).setCell _ _).setCell _ _).setCell _ _=wz;obtain⟨⟨y0,y1,y2,y3,y4⟩,Kx',q1,q2,q3,q4,q5⟩:=FIN.out _ _ _ _ _ _ _ _ _ _ _ _ _ H1.out.1 H1.out.2.1 hwz;refine bodyPost_ret (v:=.tuple #[.slice none 0 0,fltV 5 0 e0 0 e0]) (by simp[results,Tryz.results15,go_sem,y0,y1,y2,y3,y4]) rfl ?_;exact⟨_,rfl,Kx',q1,q2,q3,q4,q5⟩
 ·have hb0:((n:Int)==0)=false:=beq_eq_false_iff_ne.2 (by omega);have hb1:¬ (n:Int)>40:=by omega
  have hrun:runB ts L1 0 [] (ops.drop 0)=out:=by
   have h1:=HOUT.out;unfold applyB at h1;rw[if_neg (by rw[HF.out.2.2.2.2.2];exact hlim)] at h1;exact h1
  have HRUN:=Lib.hid hrun;clear hrun hlim;go_wp2_with fail;go_loopg [6,22] (n+1) (fun gh iv jv w=>∃ (j:Nat) (L:List PT) (ids:List Int) (Kx:Nat->Prop) (wx:World),jv=.int .i64 (j:Int)/\j<=n/\n+1<=j+gh/\runB ts L j ids (ops.drop j)=out/\(∀ x∈L,SmP (m+j) x)/\ids.length<=j/\ApK K W0 d b ts ps R ids iv Kx wx/\PD Kx wx w d b ts ps L L2)
  case atStart=>exact⟨0,L1,[],K1,w1,rfl,Nat.zero_le _,by omega,HRUN.out,H1.out.2.2.1,Nat.le_refl _,H1.out.1,H1.out.2.1⟩
  case round =>
   obtain⟨j,L,ids,Kx,wx,rfl,hj,hg,hrun,hsm,hidl,hA,hPD⟩:=hrel;by_cases hlt:j<n
   ·have hji:(j:Int)<(n:Int):=(by omega);have hjo:j<ops.length:=(by rw[HF.out.2.2.2.2.2];exact hlt);obtain⟨g,cap',vv,etv,hrd⟩:=HREAD.out j hjo;obtain⟨rfl,rfl⟩:p=some ⟨g,0,none⟩/\cap=cap':=(by cases etv;exact⟨rfl,rfl⟩);obtain⟨⟨c0,c1,c2,c3,c4,gl⟩,hv⟩:=hrd wr (fun q hq=>(hA.back _ _ _ hPD).still hq);obtain⟨pv,cv,rfl,_,_⟩:=hv.slice;have hok:=HF.out.2.2.2.2.1 _ (List.getElem_mem hjo);have hm3:m+j<=390:=(by have h1:=HF.out.2.2.2.1;have h2:=HF.out.2.2.2.2.2;omega);have hyes:=runB_ok (ts:=ts) (L:=L) (ids:=ids) (k:=j) hjo;have hno:=runB_no (ts:=ts) (L:=L) (ids:=ids) (k:=j) hjo;rw[hrun] at hyes hno;obtain⟨o,ho⟩:∃ o,ops[j]=o:=⟨_,rfl⟩;simp only[ho] at c0 c1 c2 c3 c4 hv hok hyes hno;have hba:=below_alloc wr (.cells #[.int .i64 o.dO,.string o.tbl,.int .i64 o.id,.string o.col,.slice pv o.vals.length cv] 47);have hna:=heap_alloc_new wr (.cells #[.int .i64 o.dO,.string o.tbl,.int .i64 o.id,.string o.col,.slice pv o.vals.length cv] 47);obtain⟨hA1,hP1⟩:=hA.next hPD hba;have hdo:=do_any hP1 HF.out.1 HF.out.2.1 HF.out.2.2.1 hsm hm3 hok ((hv.later hba).mono (fun q _ hq=>.inl (hA.kk q hq))) (fun q hq=>hq);have hsm2:=do1_sm (ts:=ts) (o:=o) hsm;obtain⟨k,hk⟩:∃ k,o.vals.length=k:=⟨_,rfl⟩;rw[hk] at c4 hba hna hA1 hP1 hdo;obtain⟨V,hV⟩:∃ V,wr.heap.size=V:=⟨_,rfl⟩;have hzV:=World.size_alloc wr (.cells #[.int .i64 o.dO,.string o.tbl,.int .i64 o.id,.string o.col,.slice pv k cv] 47);obtain⟨w3,hw3⟩:∃ w3,wr.alloc (.cells #[.int .i64 o.dO,.string o.tbl,.int .i64 o.id,.string o.col,.slice pv k cv] 47)=w3:=⟨_,rfl⟩;rw[hw3] at hba hna hA1 hP1 hdo hzV;rw[hV] at hna hA1 hP1 hdo hzV;obtain⟨K3,hK3⟩:∃ K':Nat->Prop,(fun q=>Kx q∨(V<=q/\q<w3.heap.size))=K':=⟨_,rfl⟩;have hKV:K3 V:=(by rw[<- hK3];exact .inr ⟨Nat.le_refl _,by omega⟩);rw[hK3] at hA1 hP1 hdo;obtain⟨r1,hr1⟩:∃ r,(doE ts L o).1=r:=⟨_,rfl⟩;obtain⟨r2,hr2⟩:∃ r,(doE ts L o).2=r:=⟨_,rfl⟩;obtain⟨L',hL'⟩:∃ r,do1 ts L o=r:=⟨_,rfl⟩;rw[hr1,hr2,hL'] at hdo;rw[hr1,hr2,hL'] at hyes;rw[hr2,hL'] at hno;rw[hL'] at hsm2;have y0:=nd_cell hna 0;have y1:=nd_cell hna 1;have y2:=nd_cell hna 2;have y3:=nd_cell hna 3;have y4:=nd_cell hna 4;have yl:=lt_of_heap hna;have HW3:=Lib.hid (And.intro hw3 hV);have HQ:=Lib.hid (And.intro hA1 (And.intro hyes (And.intro hno (And.intro hKV (And.intro hna (And.intro hsm2 (And.intro hidl ho)))))));clear hrd etv hv hok hyes hno hba hna hA hA1 hP1 hPD hrun hsm hsm2 hidl hm3 hzV hw3 hV hK3 hKV hk hr1 hr2 hL' ho;go_upto_region 7 with fail;rw[HW3.out.1,HW3.out.2];clear c0 c1 c2 c3 c4 gl;go_upto_region 8 with (go_at_call 43;(with_reducible refine hdo.mono ?_);rintro e w4 ⟨rfl,hP4⟩;have HP4:=Lib.hid (And.intro hP4 ((hP4.still HQ.out.2.2.2.1).trans HQ.out.2.2.2.2.1));clear hdo hP4);clear y0 y1 y2 y3 y4 yl;have z0:=nd_cell HP4.out.2 0;have z1:=nd_cell HP4.out.2 1;have zl:=lt_of_heap HP4.out.2;by_cases he:r2=0
    ·subst he;go_upto_region 10 with fail;have hrun:=HQ.out.2.1 rfl;by_cases hd:o.dO=1
     ·rw[if_pos hd] at hrun;rw[hd] at z0;have HD:=Lib.hid (And.intro hd hrun);clear hd hrun;obtain⟨hA1,_⟩:=HQ.out;obtain⟨g',cap2,w5,hrun5,hr5,hg5,ho5⟩:=app_int 30 Tryz.underlying30 w4 (R+1) (n:=ids.length) rfl (hA1.row.of (w':=w4) (fun q hq=>HP4.out.1.still (hA1.kb q hq))) (by have:=HQ.out.2.2.2.2.2.2.1;omega) (by have h1:=(CELLS.out _ _ _ _ _ _ _ hA1 HP4.out.1);have:=lt_of_heap h1;omega) r1;obtain⟨Kx5,hA5,hP5⟩:=hA1.app HP4.out.1 hr5 hg5 (fun q hq=>by cases hq;exact ho5);have H5:=Lib.hid (And.intro hA5 hP5);clear hr5 hg5 ho5 hA5 hP5 hA1;go_wp2_with (at_builtin;refine wpList_append_run rfl (.tmp 43) (.tmp 45) 30 rfl rfl rfl hrun5 ?_);go_roundg (n-j)
      case measure=>omega
      case rel=>exact⟨j+1,L',ids++[r1],Kx5,w5,by go_num,by omega,by omega,HD.out.2.symm,HQ.out.2.2.2.2.2.1,by rw[List.length_append];have:=HQ.out.2.2.2.2.2.2.1;show ids.length+1<=j+1;omega,H5.out.1,H5.out.2⟩
     ·rw[if_neg hd] at hrun;have hb:(o.dO==1)=false:=beq_eq_false_iff_ne.2 hd;have HD:=Lib.hid hrun;clear hd hrun;go_wp2_with fail;go_roundg (n-j)
      case measure=>omega
      case rel=>exact⟨j+1,L',ids,K3,w3,by go_num,by omega,by omega,HD.out.symm,HQ.out.2.2.2.2.2.1,by have:=HQ.out.2.2.2.2.2.2.1;omega,HQ.out.1,HP4.out.1⟩
    ·have hb:(r2 != 0)=true:=(by simp[he]);obtain rfl:=HQ.out.2.2.1 he;clear he;go_upto_region 9 with fail;clear z0;refine Par.wp_region_par 6 [.int .i64 r2,.int .i64 (j:Int),(Value.pointer (some ⟨V,1,none⟩)),.string o.tbl,fltV r2 (j:Int) o.tbl 0 e0,.slice none 0 0] (fun w=>Below w4.heap.size w4 w) ?A1 ?hm1 ?hB1 ?hA1 ((below_drew w4)) ?hop1 ?hT1
     case hm1=>kernel_rfl
     case hB1=>kernel_rfl
     case hA1 =>
      simp only[Par.putA,Par.dstAt,Act.put,List.getElem?_toArray,List.getElem?_cons_zero,List.getElem?_cons_succ,Option.bind_some,List.setIfInBounds_toArray,List.set_cons_zero,List.set_cons_succ,List.getD_cons_zero,List.getD_cons_succ];rfl
     case hop1 =>
      simp only[List.take_succ_cons,List.take_zero,Par.GiveAll,and_true];and_intros<;>intro w' hR
      ·have HR:=Lib.hid hR;clear hR;simp only[Par.Gives];go_simp;all_goals exact HR.out
      ·have HR:=Lib.hid hR;clear hR;simp only[Par.Gives];go_simp;all_goals exact HR.out
      ·have HR:=Lib.hid hR;have zl:=lt_of_heap (heap_on hR HP4.out.2);clear hR;simp only[Par.Gives];go_simp;all_goals exact HR.out
      ·have HR:=Lib.hid hR;have z1:=nd_cell (heap_on hR HP4.out.2) 1;clear hR;simp only[Par.Gives];go_simp;all_goals exact HR.out
      ·have HR:=Lib.hid hR;clear hR;simp only[Par.Gives];go_simp;all_goals exact HR.out
      ·have HR:=Lib.hid hR;clear hR;simp only[Par.Gives];go_simp;all_goals exact HR.out
     case hT1 =>
      intro w' hR;simp only[List.drop_succ_cons,List.drop_zero];have hP5:=HP4.out.1.later hR;have hc:=CELLS.out _ _ _ _ _ _ _ HQ.out.1 hP5;have x0:=nd_cell hc 0;have x1:=nd_cell hc 1;have x2:=nd_cell hc 2;have x3:=nd_cell hc 3;have x4:=nd_cell hc 4;have xf:=(fun i=>frozen_of_row w' R i _ _ hc);have xl:=lt_of_heap hc;have HP5:=Lib.hid hP5;clear hR hP5 hc z1 zl;go_wp2_with fail;generalize hwz:((((World.setCell _ _ _).setCell _ _).setCell _ _).setCell _ _).setCell _ _=wz;obtain⟨⟨y0,y1,y2,y3,y4⟩,Kx',q1,q2,q3,q4,q5⟩:=FIN.out _ _ [] (.slice none 0 0) _ _ _ _ _ _ _ _ _ ⟨HQ.out.1.kk,HQ.out.1.kr,HQ.out.1.r,HRow.nil,fun q hq=>(by cases hq),HQ.out.1.back,HQ.out.1.lo⟩ HP5.out hwz;refine bodyPost_ret (v:=.tuple #[.slice none 0 0,fltV r2 (j:Int) o.tbl 0 e0]) (by simp[results,Tryz.results15,go_sem,y0,y1,y2,y3,y4]) rfl ?_;exact⟨_,rfl,Kx',q1,q2,q3,q4,q5⟩
   ·obtain rfl:j=n:=(by omega);rw[runB_end (by rw[HF.out.2.2.2.2.2];exact Nat.le_refl _)] at hrun;subst hrun;have hc:=CELLS.out _ _ _ _ _ _ _ hA hPD;have x0:=nd_cell hc 0;have x1:=nd_cell hc 1;have x2:=nd_cell hc 2;have x3:=nd_cell hc 3;have x4:=nd_cell hc 4;have xf:=(fun i=>frozen_of_row wr R i _ _ hc);have xl:=lt_of_heap hc;obtain⟨pi,ci,rfl,_,_⟩:=HRow.isslice hA.row;have HA:=Lib.hid (And.intro hA hPD);clear hA hPD hc hsm;go_wp2_with fail;generalize hwz:((((World.setCell _ _ _).setCell _ _).setCell _ _).setCell _ _).setCell _ _=wz;obtain⟨⟨y0,y1,y2,y3,y4⟩,Kx',q1,q2,q3,q4,q5⟩:=FIN.out _ _ _ _ _ _ _ _ _ _ _ _ _ HA.out.1 HA.out.2 hwz;refine bodyPost_ret (v:=.tuple #[.slice pi ids.length ci,fltV 0 0 e0 0 e0]) (by simp[results,Tryz.results15,go_sem,y0,y1,y2,y3,y4]) rfl ?_;exact⟨_,rfl,Kx',q1,q2,q3,q4,q5⟩
theorem num_any (n:Int) (W:World):Calls Tryz.prog 20 #[.int .i64 n] W fun e w'=>e=.returned (Value.agg #[Value.int .i64 (1),Value.int .i64 (n),Value.string (e0)])/\Below W.heap.size W w':=by
 have hb1:=below_alloc W (.cells #[.int .i64 0,.int .i64 0,.string e0] 42);have k1:=heap_alloc_new W (.cells #[.int .i64 0,.int .i64 0,.string e0] 42);obtain⟨w1,hw1⟩:∃ w1,W.alloc (.cells #[.int .i64 0,.int .i64 0,.string e0] 42)=w1:=⟨_,rfl⟩;obtain⟨B,hB⟩:∃ B,W.heap.size=B:=⟨_,rfl⟩;rw[hw1] at hb1 k1;rw[hB] at k1;have x0:=nd_cell k1 0;have x1:=nd_cell k1 1;have x2:=nd_cell k1 2;have xf:=(fun i=>frozen_of_row w1 B i _ _ k1);have xl:=lt_of_heap k1;have HW:=Lib.hid (And.intro hw1 (And.intro hB (And.intro hb1 k1)));clear hw1 hB hb1 k1;go_enter Tryz.func20,Tryz.ntmps20;go_upto_region 1 with fail;rw[HW.out.1,HW.out.2.1];go_wp2_with fail;generalize hwz:((World.setCell _ _ _).setCell _ _).setCell _ _=wz;have h3:=set3 HW.out.2.2.2 (.int .i64 1) (.int .i64 n) (.string e0);have hbz:=below_set3 HW.out.2.2.1 (Nat.le_of_eq HW.out.2.1) (.int .i64 1) (.int .i64 n) (.string e0);rw[hwz] at h3 hbz;have y0:=nd_cell h3 0;have y1:=nd_cell h3 1;have y2:=nd_cell h3 2;refine bodyPost_ret (v:=(Value.agg #[Value.int .i64 (1),Value.int .i64 (n),Value.string (e0)])) (by simp[results,Tryz.results20,go_sem,y0,y1,y2]) rfl ?_;exact⟨rfl,hbz⟩
theorem text_any (s:ByteArray) (W:World):Calls Tryz.prog 21 #[.string s] W fun e w'=>e=.returned (Value.agg #[Value.int .i64 (2),Value.int .i64 (0),Value.string (s)])/\Below W.heap.size W w':=by
 have hb1:=below_alloc W (.cells #[.int .i64 0,.int .i64 0,.string e0] 42);have k1:=heap_alloc_new W (.cells #[.int .i64 0,.int .i64 0,.string e0] 42);obtain⟨w1,hw1⟩:∃ w1,W.alloc (.cells #[.int .i64 0,.int .i64 0,.string e0] 42)=w1:=⟨_,rfl⟩;obtain⟨B,hB⟩:∃ B,W.heap.size=B:=⟨_,rfl⟩;rw[hw1] at hb1 k1;rw[hB] at k1;have x0:=nd_cell k1 0;have x1:=nd_cell k1 1;have x2:=nd_cell k1 2;have xf:=(fun i=>frozen_of_row w1 B i _ _ k1);have xl:=lt_of_heap k1;have HW:=Lib.hid (And.intro hw1 (And.intro hB (And.intro hb1 k1)));clear hw1 hB hb1 k1;go_enter Tryz.func21,Tryz.ntmps21;go_upto_region 1 with fail;rw[HW.out.1,HW.out.2.1];go_wp2_with fail;generalize hwz:((World.setCell _ _ _).setCell _ _).setCell _ _=wz;have h3:=set3 HW.out.2.2.2 (.int .i64 2) (.int .i64 0) (.string s);have hbz:=below_set3 HW.out.2.2.1 (Nat.le_of_eq HW.out.2.1) (.int .i64 2) (.int .i64 0) (.string s);rw[hwz] at h3 hbz;have y0:=nd_cell h3 0;have y1:=nd_cell h3 1;have y2:=nd_cell h3 2;refine bodyPost_ret (v:=(Value.agg #[Value.int .i64 (2),Value.int .i64 (0),Value.string (s)])) (by simp[results,Tryz.results21,go_sem,y0,y1,y2]) rfl ?_;exact⟨rfl,hbz⟩
theorem eqfault_same (e a r:Int) (t c:ByteArray) (W:World):Calls Tryz.prog 17 #[fltV e a t r c,fltV e a t r c] W fun x w'=>x=.returned (.bool true)/\Below W.heap.size W w':=by
 have hb1:=below_alloc W (.cells #[.int .i64 e,.int .i64 a,.string t,.int .i64 r,.string c] 33);have k1:=heap_alloc_new W (.cells #[.int .i64 e,.int .i64 a,.string t,.int .i64 r,.string c] 33);have hb2:=below_alloc (W.alloc (.cells #[.int .i64 e,.int .i64 a,.string t,.int .i64 r,.string c] 33)) (.cells #[.int .i64 e,.int .i64 a,.string t,.int .i64 r,.string c] 33);have k2:=heap_alloc_new (W.alloc (.cells #[.int .i64 e,.int .i64 a,.string t,.int .i64 r,.string c] 33)) (.cells #[.int .i64 e,.int .i64 a,.string t,.int .i64 r,.string c] 33);have k1:=heap_on hb2 k1;have hb2:=below_on hb1 hb2;obtain⟨w2,hw2⟩:∃ w2,(W.alloc (.cells #[.int .i64 e,.int .i64 a,.string t,.int .i64 r,.string c] 33)).alloc (.cells #[.int .i64 e,.int .i64 a,.string t,.int .i64 r,.string c] 33)=w2:=⟨_,rfl⟩;obtain⟨B,hB⟩:∃ B,W.heap.size=B:=⟨_,rfl⟩;rw[World.size_alloc] at k2;rw[hw2] at k1 k2 hb2;rw[hB] at k1 k2;have x0:=nd_cell k1 0;have x1:=nd_cell k1 1;have x2:=nd_cell k1 2;have x3:=nd_cell k1 3;have x4:=nd_cell k1 4;have xl:=lt_of_heap k1;have y0:=nd_cell k2 0;have y1:=nd_cell k2 1;have y2:=nd_cell k2 2;have y3:=nd_cell k2 3;have y4:=nd_cell k2 4;have yl:=lt_of_heap k2;have e1:(e==e)=true:=beq_self_eq_true e;have e2:(a==a)=true:=beq_self_eq_true a;have e3:(r==r)=true:=beq_self_eq_true r;have e4:(t.data.toList==t.data.toList)=true:=beq_self_eq_true _;have e5:(c.data.toList==c.data.toList)=true:=beq_self_eq_true _;have HW:=Lib.hid (And.intro hw2 (And.intro hB hb2));clear hw2 hB hb1 hb2 k1 k2;go_enter Tryz.func17,Tryz.ntmps17;go_upto_region 1 with fail;rw[HW.out.1,HW.out.2.1];go_wp2_with fail;go_ret;exact⟨by first|rfl|simp,HW.out.2.2⟩
theorem eqids_same {W:World} {v1 v2:Value} {xs:List Int} (h1:Ro W 0 v1 xs) (h2:Ro W 0 v2 xs) (hl:xs.length<=1000):Calls Tryz.prog 18 #[v1,v2] W fun x w'=>x=.returned (.bool true)/\Below W.heap.size W w':=by
 obtain⟨n,hn⟩:∃ n,xs.length=n:=⟨_,rfl⟩;obtain⟨p,c,rfl,_,_⟩:=HRow.isslice h1;obtain⟨q,c',rfl,_,_⟩:=HRow.isslice h2
 have HX:Hid (∀ w,Below W.heap.size W w->∀ j (hj:j<xs.length),∃ g g',p=some ⟨g,0,none⟩/\q=some ⟨g',0,none⟩/\w.cell? ⟨g,j,none⟩=some (.int .i64 xs[j])/\w.cell? ⟨g',j,none⟩=some (.int .i64 xs[j])/\g<w.heap.size/\g'<w.heap.size):=Lib.hid (fun w hb j hj=>by
  have k1:=HRow.later h1 hb;have k2:=HRow.later h2 hb;obtain⟨g,_,e,_,_⟩:=HRow.slice k1 (by omega);cases e;obtain⟨g',_,e,_,_⟩:=HRow.slice k2 (by omega);cases e;have e:(xs.map iv)[j]?=some (.int .i64 xs[j]):=(by rw[List.getElem?_map,List.getElem?_eq_getElem hj];rfl);exact⟨g,g',rfl,rfl,k1.cell e,k2.cell e,(HRow.lt k1 g rfl).2,(HRow.lt k2 g' rfl).2⟩)
 have HN:=Lib.hid hn;have hni:(n:Int)<=1000:=(by omega);rw[hn];have e0':((n:Int) != (n:Int))=false:=(by simp);clear h1 h2 hl hn;go_enter Tryz.func18,Tryz.ntmps18;go_wp2_with fail;go_loopg [5] (n+1) (fun gh jv w=>∃ (j:Nat),jv=.int .i64 (j:Int)/\j<=n/\n+1<=j+gh/\Below W.heap.size W w)
 case atStart=>exact⟨0,rfl,Nat.zero_le _,by omega,Below.refl _ _⟩
 case round =>
  obtain⟨j,rfl,hj,hg,hB⟩:=hrel;by_cases hlt:j<n
  ·have hji:(j:Int)<(n:Int):=(by omega);have hjx:j<xs.length:=(by rw[HN.out];exact hlt);obtain⟨g,g',rfl,rfl,_⟩:=HX.out wr hB j hjx;obtain⟨x,hx⟩:∃ x,xs[j]=x:=⟨_,rfl⟩
   have HC:Hid (∀ w,Below wr.heap.size wr w->w.cell? ⟨g,j,none⟩=some (.int .i64 x)/\w.cell? ⟨g',j,none⟩=some (.int .i64 x)/\g<w.heap.size/\g'<w.heap.size):=Lib.hid (fun w hw=>by
    obtain⟨g2,g3,e1,e2,k1,k2,k3,k4⟩:=HX.out w (below_on hB hw) j hjx;cases e1;cases e2;rw[hx] at k1 k2;exact⟨k1,k2,k3,k4⟩)
   have HB:=Lib.hid hB;have ex:(x != x)=false:=(by simp);clear hB hx;go_upto_region 6 with fail;refine Par.wp_region_par 9 [.slice (some ⟨g,0,none⟩) n c,.int .i64 (j:Int),(Value.pointer (some ⟨g,j,none⟩)),.int .i64 x,.slice (some ⟨g',0,none⟩) n c',.int .i64 (j:Int),(Value.pointer (some ⟨g',j,none⟩)),.int .i64 x,.bool false] (fun w=>Below wr.heap.size wr w) ?A1 ?hm1 ?hB1 ?hA1 ((below_drew wr)) ?hop1 ?hT1
   case hm1=>kernel_rfl
   case hB1=>kernel_rfl
   case hA1 =>
    simp only[Par.putA,Par.dstAt,Act.put,List.getElem?_toArray,List.getElem?_cons_zero,List.getElem?_cons_succ,Option.bind_some,List.setIfInBounds_toArray,List.set_cons_zero,List.set_cons_succ,List.getD_cons_zero,List.getD_cons_succ];rfl
   case hop1 =>
    simp only[List.take_succ_cons,List.take_zero,Par.GiveAll,and_true];and_intros<;>intro w' hR
    ·have HR:=Lib.hid hR;clear hR;simp only[Par.Gives];go_simp;all_goals exact HR.out
    ·have HR:=Lib.hid hR;clear hR;simp only[Par.Gives];go_simp;all_goals exact HR.out
    ·have HR:=Lib.hid hR;clear hR;simp only[Par.Gives];go_simp;all_goals exact HR.out
    ·have HR:=Lib.hid hR;have z1:=(HC.out w' hR).1;clear hR;simp only[Par.Gives];go_simp;all_goals exact HR.out
    ·have HR:=Lib.hid hR;clear hR;simp only[Par.Gives];go_simp;all_goals exact HR.out
    ·have HR:=Lib.hid hR;clear hR;simp only[Par.Gives];go_simp;all_goals exact HR.out
    ·have HR:=Lib.hid hR;clear hR;simp only[Par.Gives];go_simp;all_goals exact HR.out
    ·have HR:=Lib.hid hR;have z1:=(HC.out w' hR).2.1;clear hR;simp only[Par.Gives];go_simp;all_goals exact HR.out
    ·have HR:=Lib.hid hR;clear hR;simp only[Par.Gives];go_simp;all_goals exact HR.out
   case hT1 =>
    intro w' hR;simp only[List.drop_succ_cons,List.drop_nil];have HR:=Lib.hid (below_on HB.out hR);clear hR;go_wp2_with fail;go_roundg (n-j)
    case measure=>omega
    case rel=>exact⟨j+1,by go_num,by omega,by omega,HR.out⟩
  ·obtain rfl:j=n:=(by omega);have HB:=Lib.hid hB;clear hB;go_wp2_with fail;go_ret;exact⟨rfl,HB.out⟩
