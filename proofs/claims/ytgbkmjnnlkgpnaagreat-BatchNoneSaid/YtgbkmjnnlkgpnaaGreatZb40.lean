import Derived.Test.YtgbkmjnnlkgpnaaGreatZb39
import Derived.Test.YtgbkmjnnlkgpnaaGreatZb10
import Derived.Test.YtgbkmjnnlkgpnaaGreatZb38
namespace Go.Proofs.YtgbkmjnnlkgpnaaGreat
open Go Go.RowKit Go.Proofs Co Co.S Par
theorem grown_set3 (w:World) (g:Nat) (a b c:Value):w.grownBy (((w.setCell ⟨g,0,none⟩ a).setCell ⟨g,1,none⟩ b).setCell ⟨g,2,none⟩ c) (some g) :=
 ⟨rfl,rfl,rfl,by simp[World.setCell],fun i _ hk=>by
  have h:i≠g:=(fun e=>hk (by rw[e]));rw[heap_setCell_other _ _ i _ h,heap_setCell_other _ _ i _ h,heap_setCell_other _ _ i _ h]⟩
structure JV (W:World) (B s:Nat) (E:Nat->Value) (u:T3) (l:Nat->Bool) (vs:Nat->Value) (w:World):Prop where
 bel:Below W.heap.size W w
 ev:∀ j,j≠s->l j=true->vs j=E j
 own:∃ x0 x1 x2,w.heap[B]?=some (.cells #[x0,x1,x2] 42)/\(l s=true->x0=.int .i64 u.1/\x1=.int .i64 u.2.1/\x2=.string u.2.2)
section
variable {W w w':World} {B s:Nat} {E:Nat->Value} {u:T3} {l:Nat->Bool} {vs:Nat->Value}
theorem JV.up (h:JV W B s E u l vs w) (i:Nat) (hi:i≠s):JV W B s E u (upB l i) (upV vs i (E i)) w:=by
 refine⟨h.bel,fun j hj hl=>?_,?_⟩
 ·by_cases e:j=i
  ·subst e;rw[upV_eq]
  ·rw[upV_ne e];rw[upB_ne e] at hl;exact h.ev j hj hl
 ·obtain⟨x0,x1,x2,h1,h2⟩:=h.own;exact⟨x0,x1,x2,h1,fun hl=>h2 (by rwa [upB_ne (fun e=>hi e.symm)] at hl)⟩
theorem JV.call (h:JV W B s E u l vs w) (hb:Below w.heap.size w w') (i:Nat) (hi:i≠s):JV W B s E u (upB l i) (upV vs i (E i)) w':=by
 have h':JV W B s E u l vs w':=by
  obtain⟨x0,x1,x2,h1,h2⟩:=h.own;exact⟨below_on h.bel hb,h.ev,x0,x1,x2,heap_on hb h1,h2⟩
 exact h'.up i hi
theorem JV.store (h:JV W B s E u l vs w) (hB:W.heap.size<=B) (v:Value):JV W B s E u (upB l s) (upV vs s v) (((w.setCell ⟨B,0,none⟩ (.int .i64 u.1)).setCell ⟨B,1,none⟩ (.int .i64 u.2.1)).setCell ⟨B,2,none⟩ (.string u.2.2)):=by
 obtain⟨x0,x1,x2,h1,h2⟩:=h.own;refine⟨below_set3 h.bel hB _ _ _,fun j hj hl=>?_,_,_,_,set3 h1 _ _ _,fun _=>⟨rfl,rfl,rfl⟩⟩;rw[upV_ne hj];rw[upB_ne hj] at hl;exact h.ev j hj hl
theorem JV.box (h:JV W B s E u l vs w):B<w.heap.size/\(∀ j,w.frozen? ⟨B,j,none⟩=false)/\(∃ v,w.cell? ⟨B,0,none⟩=some v)/\(∃ v,w.cell? ⟨B,1,none⟩=some v)/\∃ v,w.cell? ⟨B,2,none⟩=some v:=by
 obtain⟨x0,x1,x2,h1,_⟩:=h.own;exact⟨lt_of_heap h1,fun j=>frozen_of_row w B j _ _ h1,⟨_,nd_cell h1 0⟩,⟨_,nd_cell h1 1⟩,⟨_,nd_cell h1 2⟩⟩
end
end Go.Proofs.YtgbkmjnnlkgpnaaGreat
namespace Go.Proofs.YtgbkmjnnlkgpnaaGreat
open Go Go.RowKit Go.Proofs Co Co.S
section
variable {W w:World} {b:Nat} {ts:List T} {tt:List RT} {i:NI} {O:Nat->Nat} {t:T} {cv dv:Value}
end
theorem cellsF_snoc (fs:List (Value×Value)) (ts:List T) (f:Value×Value) (t:T) (h:fs.length=ts.length):cellsF (fs++[f]) (ts++[t])=cellsF fs ts++[.string t.nm,f.1,.string t.key,f.2]:=by
 unfold cellsF;rw[List.zip_append h,List.flatMap_append]
 simp
def rt0:RT:=⟨.slice none 0 0,0,[],[]⟩
theorem RTok.nil {W:World} {t:T} {O:Nat->Nat} {j:Nat}:RTok W t rt0 O j :=
 ⟨HRow.nil,rfl,fun _ h=>absurd h (Nat.not_lt_zero _),fun _ _ h=>absurd h (Nat.not_lt_zero _),fun _ h=>(by cases h),List.Pairwise.nil,fun _ h=>(by cases h),fun _ h=>(by cases h),fun _ h=>absurd h (Nat.not_lt_zero _)⟩
def ownO (W:World) (O:Nat->Nat) (sv ov nv:Value) (q:Nat):Nat :=
 if q<W.heap.size then O q else if sv.ownBlock=some q then 2 else if ov.ownBlock=some q then 3 else if nv.ownBlock=some q then 4 else 0
section
variable {W W':World} {b:Nat} {ts:List T} {tt:List RT} {i:NI} {O:Nat->Nat} {t:T} {sv ov nv c d:Value}
theorem DbN.addtab (h:DbN W b ts tt i O) (hbox:W'.heap[b]?=some (.cells #[sv,ov,nv] 54)) (hk:Tn (fun q=>O q≠0/\O q<=4) W W')
  (hform:HRow W' 0 70 4 sv (ts.length+1) (cellsF i.fs ts++[.string t.nm,c,.string t.key,d])) (hrd:RdT W' c d t)
  (hout:HRow W' 0 95 1 ov (ts.length+1) (tt.map (·.rv)++[.slice none 0 0])) (hnx:HRow W' 0 3 1 nv (ts.length+1) (tt.map (fun x=>Value.int .i64 (x.nx:Int))++[.int .i64 0]))
  (h2:∀ q,sv.ownBlock=some q->i.sv.ownBlock=some q∨W.heap.size<=q) (h3:∀ q,ov.ownBlock=some q->i.ov.ownBlock=some q∨W.heap.size<=q) (h4:∀ q,nv.ownBlock=some q->i.nv.ownBlock=some q∨W.heap.size<=q) :
  DbN W' b (ts++[t]) (tt++[rt0]) ⟨sv,ov,nv,i.fs++[(c,d)]⟩ (ownO W O sv ov nv)/\Ext W O (ownO W O sv ov nv):=by
 have hold:∀ q,q<W.heap.size->ownO W O sv ov nv q=O q:=(fun q hq=>by unfold ownO;rw[if_pos hq]);have hbl:=lt_of_heap h.box;have hl1:(ts++[t]).length=ts.length+1:=by simp
 have d23:∀ q,sv.ownBlock=some q->ov.ownBlock=some q->False:=fun q e1 e2=>by
  obtain⟨_,_,a1⟩:=hform.block q e1;obtain⟨_,_,a2⟩:=hout.block q e2;rw[a1] at a2;cases a2
 have d24:∀ q,sv.ownBlock=some q->nv.ownBlock=some q->False:=fun q e1 e2=>by
  obtain⟨_,_,a1⟩:=hform.block q e1;obtain⟨_,_,a2⟩:=hnx.block q e2;rw[a1] at a2;cases a2
 have d34:∀ q,ov.ownBlock=some q->nv.ownBlock=some q->False:=fun q e1 e2=>by
  obtain⟨_,_,a1⟩:=hout.block q e1;obtain⟨_,_,a2⟩:=hnx.block q e2;rw[a1] at a2;cases a2
 refine⟨⟨hbox,?_,?_,?_,fun j a e=>?_,?_,?_,fun j a e=>?_,(hold b hbl).trans h.o1,fun q hq=>?_,fun q hq=>?_,fun q hq=>?_,fun q hq=>?_⟩,fun q hq=>hold q hq⟩
 ·rw[List.length_append,List.length_append,h.n];rfl
 ·rw[List.length_append,List.length_append,h.fn];rfl
 ·rw[hl1,cellsF_snoc _ _ _ _ h.fn];exact hform
 ·by_cases hj:j<ts.length
  ·have hj2:j<i.fs.length:=(by rw[h.fn];exact hj);have e1:(i.fs++[(c,d)])[j]=i.fs[j]:=List.getElem_append_left hj2;have e2:(ts++[t])[j]=ts[j]:=List.getElem_append_left hj;show RdT W' (i.fs++[(c,d)])[j].1 (i.fs++[(c,d)])[j].2 (ts++[t])[j];rw[e1,e2];exact (h.rd j hj hj2).kp hk.kpX
  ·obtain rfl:j=ts.length:=by omega
   have e1:(i.fs++[(c,d)])[ts.length]'e=(c,d):=by
    rw[List.getElem_append_right (by rw[h.fn];exact Nat.le_refl _)];simp
   have e2:(ts++[t])[ts.length]'a=t:=by
    rw[List.getElem_append_right (Nat.le_refl _)];simp
   show RdT W' (i.fs++[(c,d)])[ts.length].1 (i.fs++[(c,d)])[ts.length].2 (ts++[t])[ts.length];rw[e1,e2];exact hrd
 ·rw[hl1,List.map_append];exact hout
 ·rw[hl1,List.map_append];exact hnx
 ·by_cases hj:j<ts.length
  ·have hj2:j<tt.length:=(by rw[h.n];exact hj);have e1:(tt++[rt0])[j]=tt[j]:=List.getElem_append_left hj2;have e2:(ts++[t])[j]=ts[j]:=List.getElem_append_left hj;rw[e1,e2];exact (h.tab j hj hj2).tn hk (fun q hq=>by omega) hold
  ·obtain rfl:j=ts.length:=by omega
   have e1:(tt++[rt0])[ts.length]'e=rt0:=by
    rw[List.getElem_append_right (by rw[h.n];exact Nat.le_refl _)];simp[h.n]
   rw[e1];exact RTok.nil
 ·rcases h2 q hq with e|e
  ·exact (hold q (HRow.lt h.form q e).2).trans (h.o2 q e)
  ·unfold ownO;rw[if_neg (Nat.not_lt.2 e),if_pos hq]
 ·rcases h3 q hq with e|e
  ·exact (hold q (HRow.lt h.outer q e).2).trans (h.o3 q e)
  ·unfold ownO;rw[if_neg (Nat.not_lt.2 e),if_neg (fun e2=>d23 q e2 hq),if_pos hq]
 ·rcases h4 q hq with e|e
  ·exact (hold q (HRow.lt h.nxs q e).2).trans (h.o4 q e)
  ·unfold ownO;rw[if_neg (Nat.not_lt.2 e),if_neg (fun e2=>d24 q e2 hq),if_neg (fun e2=>d34 q e2 hq),if_pos hq]
 ·by_cases hl:q<W.heap.size
  ·exact Nat.lt_of_lt_of_le hl hk.size
  ·unfold ownO at hq;rw[if_neg hl] at hq;by_cases e1:sv.ownBlock=some q
   ·exact (HRow.lt hform q e1).2
   ·rw[if_neg e1] at hq;by_cases e2:ov.ownBlock=some q
    ·exact (HRow.lt hout q e2).2
    ·rw[if_neg e2] at hq;by_cases e3:nv.ownBlock=some q
     ·exact (HRow.lt hnx q e3).2
     ·rw[if_neg e3] at hq;exact absurd rfl hq
end
theorem infoT46:(Tryz.prog.info? 70).map (fun i=>(i.zero,i.size,i.bytes))=some (some (.agg #[.string e0,.slice none 0 0,.string e0,.slice none 0 0]),4,80):=by kernel_rfl
theorem infoR55:(Tryz.prog.info? 95).map (fun i=>(i.zero,i.size,i.bytes))=some (some (.slice none 0 0),1,24):=by kernel_rfl
theorem infoI3:(Tryz.prog.info? 3).map (fun i=>(i.zero,i.size,i.bytes))=some (some (.int .i64 0),1,8):=by kernel_rfl
theorem app_at {t ty e:TypeId} {z:Value} {size bytes:Nat} (ht:Tryz.prog.underlying t=some (.slice e)) (hinf:(Tryz.prog.info? e).map (fun i=>(i.zero,i.size,i.bytes))=some (some z,size,bytes)) (hzs:z.cells.size=size) (hsz:0<size) (hby:bytes<=80)
  (w:World) (base:Nat) {v:Value} {m:Nat} {xs:List Value} (hr:HRow w base e size v m xs) (hm:m+1<=1000000) (hb:base<=w.heap.size) (g0:Nat) (cs:Array Value) (hh:w.heap[g0]?=some (.cells cs e)) (hcs:cs.size=size) (h1:∀ u∈cs.toList,u.oneCell'=true) :
  ∃ g cap w',(Builtin.append_ #[t,t] ty #[v,.slice (some ⟨g0,0,none⟩) 1 1]).run Tryz.prog w=.ok (.slice (some ⟨g,0,none⟩) (m+1) cap) w' /\
   HRow w' base e size (.slice (some ⟨g,0,none⟩) (m+1) cap) (m+1) (xs++cs.toList)/\w.grownBy w' v.ownBlock/\(v.ownBlock=some g∨w.heap.size<=g):=by
 obtain⟨i0,hi0,hz0,hz1,hz2⟩:=info_parts hinf
 have hmul:(m+1)*bytes<=140737488355328:=by
  have:(m+1)*bytes<=1000000*80:=Nat.mul_le_mul hm hby
  omega
 obtain⟨g,cap,w',h1',h2,h3,h4⟩:=run_append_has (P:=Tryz.prog) w base t ty e i0 z size bytes ht hi0 hz0 hz1 hz2 hzs hsz hr ⟨g0,0,none⟩ 1 1 cs.toList (by simpa using hcs)
  (by exact World.news_of_block hh) h1 (by decide) (by unfold maxLen;omega) hmul hb
 exact⟨g,cap,w',h1',h2,h3,h4⟩
theorem HRow.by_other {w w':World} {base size n:Nat} {e:TypeId} {v:Value} {xs:List Value} (h:HRow w base e size v n xs) {o:Option Nat} (hg:w.grownBy w' o) (ho:∀ k cur,o=some k->w.heap[k]?≠some (.cells cur e)):HRow w' base e size v n xs :=
 h.of (fun k hk=>by
  obtain⟨_,cur,e1⟩:=h.block k hk;exact hg.block k (lt_of_heap e1) (fun e2=>ho k cur e2.symm e1))
structure FJ (W0:World) (E:Nat->Value) (rv:Value) (n:Nat) (xs:List Value) (nm key:ByteArray) (nc:Nat) (dv:Value) (t:T) (l:Nat->Bool) (vs:Nat->Value) (w:World):Prop where
 gb:W0.grownBy w rv.ownBlock
 f0:l 8=false->Below W0.heap.size W0 w
 ev:∀ j,j<6∨j=9∨j=10->l j=true->vs j=E j
 f6:l 6=true->l 8=false->∃ p1 c1,vs 6=.agg #[.string nm,.slice p1 nc c1,.string key,dv]/\RdT w (.slice p1 nc c1) dv t
 f7:l 7=true->l 8=false->∃ p1 c1 g0,vs 6=.agg #[.string nm,.slice p1 nc c1,.string key,dv]/\RdT w (.slice p1 nc c1) dv t/\vs 7=.slice (some ⟨g0,0,none⟩) 1 1/\w.heap[g0]?=some (.cells #[.string nm,.slice p1 nc c1,.string key,dv] 70)
 f8:l 8=true->∃ g cap p1 c1,vs 8=.slice (some ⟨g,0,none⟩) (n+1) cap/\HRow w 0 70 4 (.slice (some ⟨g,0,none⟩) (n+1) cap) (n+1) (xs++[.string nm,.slice p1 nc c1,.string key,dv])/\(rv.ownBlock=some g∨W0.heap.size<=g)/\RdT w (.slice p1 nc c1) dv t
section
open Par
variable {W0 w w':World} {E:Nat->Value} {rv:Value} {n:Nat} {xs:List Value} {nm key:ByteArray} {nc:Nat} {dv:Value} {t:T} {l:Nat->Bool} {vs:Nat->Value}
theorem FJ.up (h:FJ W0 E rv n xs nm key nc dv t l vs w) (i:Nat) (hi:i<6∨i=9∨i=10):FJ W0 E rv n xs nm key nc dv t (upB l i) (upV vs i (E i)) w:=by
 have k:∀ j,j=6∨j=7∨j=8->upB l i j=l j/\upV vs i (E i) j=vs j:=(fun j hj=>⟨upB_ne (by omega),upV_ne (by omega)⟩);obtain⟨a6,b6⟩:=k 6 (by simp);obtain⟨a7,b7⟩:=k 7 (by simp);obtain⟨a8,b8⟩:=k 8 (by simp);refine⟨h.gb,fun hl=>h.f0 (a8▸hl),fun j hj hl=>?_,fun h1 h2=>?_,fun h1 h2=>?_,fun hl=>?_⟩
 ·by_cases e:j=i
  ·subst e;rw[upV_eq]
  ·rw[upV_ne e];rw[upB_ne e] at hl;exact h.ev j hj hl
 ·rw[a6] at h1;rw[a8] at h2;rw[b6];exact h.f6 h1 h2
 ·rw[a7] at h1;rw[a8] at h2;rw[b6,b7];exact h.f7 h1 h2
 ·rw[a8] at hl;rw[b8];exact h.f8 hl
theorem FJ.s6 (h:FJ W0 E rv n xs nm key nc dv t l vs w) (h7:l 7=false) (h8:l 8=false) {p1:Option Addr} {c1:Nat} (hr:RdT w' (.slice p1 nc c1) dv t) (hb:Below w.heap.size w w') :
  FJ W0 E rv n xs nm key nc dv t (upB l 6) (upV vs 6 (.agg #[.string nm,.slice p1 nc c1,.string key,dv])) w':=by
 have hb2:=below_on (h.f0 h8) hb;refine⟨grownB hb2,fun _=>hb2,fun j hj hl=>?_,fun _ _=>⟨p1,c1,upV_eq,hr⟩,fun hl _=>?_,fun hl=>?_⟩
 ·rw[upV_ne (by omega)];rw[upB_ne (by omega)] at hl;exact h.ev j hj hl
 ·rw[upB_ne (by decide),h7] at hl;cases hl
 ·rw[upB_ne (by decide),h8] at hl;cases hl
theorem FJ.s7 (h:FJ W0 E rv n xs nm key nc dv t l vs w) (h8:l 8=false) {p1:Option Addr} {c1:Nat} (e6:vs 6=.agg #[.string nm,.slice p1 nc c1,.string key,dv]) (hr:RdT w (.slice p1 nc c1) dv t) :
  FJ W0 E rv n xs nm key nc dv t (upB l 7) (upV vs 7 (.slice (some ⟨w.heap.size,0,none⟩) 1 1)) (w.alloc (.cells #[.string nm,.slice p1 nc c1,.string key,dv] 70)):=by
 have hbA:=below_alloc w (.cells #[.string nm,.slice p1 nc c1,.string key,dv] 70);have hb2:=below_on (h.f0 h8) hbA;have hr2:=hr.kp (Tn.of_below (S:=fun _=>False) hbA).kpX;refine⟨grownB hb2,fun _=>hb2,fun j hj hl=>?_,fun _ _=>⟨p1,c1,by rw[upV_ne (by decide)];exact e6,hr2⟩,fun _ _=>⟨p1,c1,_,by rw[upV_ne (by decide)];exact e6,hr2,upV_eq,heap_alloc_new w _⟩,fun hl=>?_⟩
 ·rw[upV_ne (by omega)];rw[upB_ne (by omega)] at hl;exact h.ev j hj hl
 ·rw[upB_ne (by decide),h8] at hl;cases hl
theorem tn_of46 {o:Option Nat} (hg:w.grownBy w' o) (ho:∀ q,o=some q->∃ cur,w.heap[q]?=some (.cells cur 70)):Tn (fun q=>o=some q) w w' :=
 Tn.of_chg ⟨hg.os,hg.tape,hg.output,hg.size,fun q hq hn=>hg.block q hq (fun e=>hn e.symm)⟩ (fun q _ hq=>by
  obtain⟨cur,e⟩:=ho q hq;exact .inl ⟨cur,70,e,rfl⟩)
theorem FJ.s8 (h:FJ W0 E rv n xs nm key nc dv t l vs w) (h8:l 8=false) {p1:Option Addr} {c1:Nat} (hr:RdT w (.slice p1 nc c1) dv t) (hW:HRow W0 0 70 4 rv n xs) {g cap:Nat} {v:Value}
  (hv:v=.slice (some ⟨g,0,none⟩) (n+1) cap) (hr2:HRow w' 0 70 4 (.slice (some ⟨g,0,none⟩) (n+1) cap) (n+1) (xs++[.string nm,.slice p1 nc c1,.string key,dv])) (hg:w.grownBy w' rv.ownBlock) (ho:rv.ownBlock=some g∨w.heap.size<=g) :
  FJ W0 E rv n xs nm key nc dv t (upB l 8) (upV vs 8 v) w':=by
 have hb:=h.f0 h8;have hgb:W0.grownBy w' rv.ownBlock:=⟨hg.os.trans hb.os,hg.tape.trans hb.tape,hg.output.trans hb.output,Nat.le_trans hb.size hg.size,fun q hq hn=>(hg.block q (Nat.lt_of_lt_of_le hq hb.size) hn).trans (hb.block q hq)⟩
 have htn:=tn_of46 hg (fun q hq=>by
  obtain⟨_,cur,e⟩:=(hW.later hb).block q hq;exact⟨cur,e⟩)
 refine⟨hgb,fun hl=>?_,fun j hj hl=>?_,fun _ hl=>?_,fun _ hl=>?_,fun _=>⟨g,cap,p1,c1,upV_eq.trans hv,hr2,ho.imp (fun h=>h) (fun h=>Nat.le_trans hb.size h),hr.kp htn.kpX⟩⟩
 ·rw[upB_eq] at hl;cases hl
 ·rw[upV_ne (by omega)];rw[upB_ne (by omega)] at hl;exact h.ev j hj hl
 ·rw[upB_eq] at hl;cases hl
 ·rw[upB_eq] at hl;cases hl
end
structure AJ (W0:World) (E:Nat->Value) (b:Nat) (sv ov nv:Value) (n:Nat) (xs ys:List Value) (l:Nat->Bool) (vs:Nat->Value) (w:World):Prop where
 tn:Tn (fun q=>q=b∨ov.ownBlock=some q∨nv.ownBlock=some q) W0 w
 ev:∀ j,j<17->j≠6->j≠7->j≠12->j≠13->j≠16->l j=true->vs j=E j
 box:w.heap[b]?=some (.cells #[sv,(if l 16=true then vs 7 else ov),nv] 54)
 r7:l 7=false->HRow w 0 95 1 ov n xs
 r13:l 13=false->HRow w 0 3 1 nv n ys
 f6:l 6=true->l 7=false->∃ g0,vs 6=.slice (some ⟨g0,0,none⟩) 1 1/\w.heap[g0]?=some (.cells #[.slice none 0 0] 95)/\W0.heap.size<=g0
 f12:l 12=true->l 13=false->∃ g0,vs 12=.slice (some ⟨g0,0,none⟩) 1 1/\w.heap[g0]?=some (.cells #[.int .i64 0] 3)/\W0.heap.size<=g0
 f7:l 7=true->∃ g cap,vs 7=.slice (some ⟨g,0,none⟩) (n+1) cap/\HRow w 0 95 1 (.slice (some ⟨g,0,none⟩) (n+1) cap) (n+1) (xs++[.slice none 0 0])/\(ov.ownBlock=some g∨W0.heap.size<=g)
 f13:l 13=true->∃ g cap,vs 13=.slice (some ⟨g,0,none⟩) (n+1) cap/\HRow w 0 3 1 (.slice (some ⟨g,0,none⟩) (n+1) cap) (n+1) (ys++[.int .i64 0])/\(nv.ownBlock=some g∨W0.heap.size<=g)
section
open Par
variable {W0 w w':World} {E:Nat->Value} {b:Nat} {sv ov nv:Value} {n:Nat} {xs ys:List Value} {l:Nat->Bool} {vs:Nat->Value}
theorem AJ.up (h:AJ W0 E b sv ov nv n xs ys l vs w) (i:Nat) (hi:i<17/\i≠6/\i≠7/\i≠12/\i≠13/\i≠16):AJ W0 E b sv ov nv n xs ys (upB l i) (upV vs i (E i)) w:=by
 have k:∀ j,j=6∨j=7∨j=12∨j=13∨j=16->upB l i j=l j/\upV vs i (E i) j=vs j:=(fun j hj=>⟨upB_ne (by omega),upV_ne (by omega)⟩);obtain⟨a6,b6⟩:=k 6 (by simp);obtain⟨a7,b7⟩:=k 7 (by simp);obtain⟨a12,b12⟩:=k 12 (by simp);obtain⟨a13,b13⟩:=k 13 (by simp);obtain⟨a16,b16⟩:=k 16 (by simp);refine⟨h.tn,fun j hj j1 j2 j3 j4 j5 hl=>?_,by rw[a16,b7];exact h.box,by rw[a7];exact h.r7,by rw[a13];exact h.r13,by rw[a6,a7,b6];exact h.f6,by rw[a12,a13,b12];exact h.f12,by rw[a7,b7];exact h.f7,by rw[a13,b13];exact h.f13⟩;by_cases e:j=i
 ·subst e;rw[upV_eq]
 ·rw[upV_ne e];rw[upB_ne e] at hl;exact h.ev j hj j1 j2 j3 j4 j5 hl
theorem AJ.s6 (h:AJ W0 E b sv ov nv n xs ys l vs w) (h7:l 7=false):AJ W0 E b sv ov nv n xs ys (upB l 6) (upV vs 6 (.slice (some ⟨w.heap.size,0,none⟩) 1 1)) (w.alloc (.cells #[.slice none 0 0] 95)):=by
 have hbA:=below_alloc w (.cells #[.slice none 0 0] 95);have u:∀ j,j≠6->upB l 6 j=l j/\upV vs 6 (.slice (some ⟨w.heap.size,0,none⟩) 1 1) j=vs j:=(fun j hj=>⟨upB_ne hj,upV_ne hj⟩);refine⟨h.tn.trans (Tn.of_below (S:=fun _=>False) hbA) (fun _ _ h=>h) (fun _ _ h=>h.elim),fun j hj j1 j2 j3 j4 j5 hl=>?_,?_,fun hl=>?_,fun hl=>?_,fun _ _=>⟨_,upV_eq,heap_alloc_new w _,h.tn.size⟩,fun h1 h2=>?_,fun hl=>?_,fun hl=>?_⟩
 ·rw[(u j j1).2];rw[(u j j1).1] at hl;exact h.ev j hj j1 j2 j3 j4 j5 hl
 ·rw[(u 16 (by decide)).1,(u 7 (by decide)).2];exact heap_on hbA h.box
 ·rw[(u 7 (by decide)).1] at hl;exact (h.r7 hl).later hbA
 ·rw[(u 13 (by decide)).1] at hl;exact (h.r13 hl).later hbA
 ·rw[(u 12 (by decide)).1] at h1;rw[(u 13 (by decide)).1] at h2;rw[(u 12 (by decide)).2]
  obtain⟨g0,q1,q2,q3⟩:=h.f12 h1 h2;exact⟨g0,q1,heap_on hbA q2,q3⟩
 ·rw[(u 7 (by decide)).1,h7] at hl;cases hl
 ·rw[(u 13 (by decide)).1] at hl;rw[(u 13 (by decide)).2]
  obtain⟨g,cap,q1,q2,q3⟩:=h.f13 hl;exact⟨g,cap,q1,q2.later hbA,q3⟩
theorem AJ.s12 (h:AJ W0 E b sv ov nv n xs ys l vs w) (h13:l 13=false):AJ W0 E b sv ov nv n xs ys (upB l 12) (upV vs 12 (.slice (some ⟨w.heap.size,0,none⟩) 1 1)) (w.alloc (.cells #[.int .i64 0] 3)):=by
 have hbA:=below_alloc w (.cells #[.int .i64 0] 3);have u:∀ j,j≠12->upB l 12 j=l j/\upV vs 12 (.slice (some ⟨w.heap.size,0,none⟩) 1 1) j=vs j:=(fun j hj=>⟨upB_ne hj,upV_ne hj⟩);refine⟨h.tn.trans (Tn.of_below (S:=fun _=>False) hbA) (fun _ _ h=>h) (fun _ _ h=>h.elim),fun j hj j1 j2 j3 j4 j5 hl=>?_,?_,fun hl=>?_,fun hl=>?_,fun h1 h2=>?_,fun _ _=>⟨_,upV_eq,heap_alloc_new w _,h.tn.size⟩,fun hl=>?_,fun hl=>?_⟩
 ·rw[(u j j3).2];rw[(u j j3).1] at hl;exact h.ev j hj j1 j2 j3 j4 j5 hl
 ·rw[(u 16 (by decide)).1,(u 7 (by decide)).2];exact heap_on hbA h.box
 ·rw[(u 7 (by decide)).1] at hl;exact (h.r7 hl).later hbA
 ·rw[(u 13 (by decide)).1] at hl;exact (h.r13 hl).later hbA
 ·rw[(u 6 (by decide)).1] at h1;rw[(u 7 (by decide)).1] at h2;rw[(u 6 (by decide)).2]
  obtain⟨g0,q1,q2,q3⟩:=h.f6 h1 h2;exact⟨g0,q1,heap_on hbA q2,q3⟩
 ·rw[(u 7 (by decide)).1] at hl;rw[(u 7 (by decide)).2]
  obtain⟨g,cap,q1,q2,q3⟩:=h.f7 hl;exact⟨g,cap,q1,q2.later hbA,q3⟩
 ·rw[(u 13 (by decide)).1,h13] at hl;cases hl
theorem tn_row {base size m:Nat} {e:TypeId} {v:Value} {zs:List Value} (hr:HRow w base e size v m zs) (he:mtT e=true) (hg:w.grownBy w' v.ownBlock):Tn (fun q=>v.ownBlock=some q) w w' :=
 Tn.of_chg ⟨hg.os,hg.tape,hg.output,hg.size,fun q hq hn=>hg.block q hq (fun e2=>hn e2.symm)⟩ (fun q _ hq=>by
  obtain⟨_,cur,e2⟩:=hr.block q hq;exact .inl ⟨cur,e,e2,he⟩)
theorem AJ.s7 (h:AJ W0 E b sv ov nv n xs ys l vs w) (h7:l 7=false) (h13:l 13=false) (h16:l 16=false) {v:Value} {g cap:Nat} (hv:v=.slice (some ⟨g,0,none⟩) (n+1) cap)
  (hr:HRow w' 0 95 1 (.slice (some ⟨g,0,none⟩) (n+1) cap) (n+1) (xs++[.slice none 0 0])) (hg:w.grownBy w' ov.ownBlock) (ho:ov.ownBlock=some g∨w.heap.size<=g):AJ W0 E b sv ov nv n xs ys (upB l 7) (upV vs 7 v) w':=by
 have hro:=h.r7 h7;have htn:=tn_row hro rfl hg
 have no:∀ (q:Nat) (cur:Array Value) (e:TypeId),e≠95->w.heap[q]?=some (Obj.cells cur e)->w'.heap[q]?=some (Obj.cells cur e):=fun q cur e he hq=>by
  rw[hg.block q (lt_of_heap hq) (fun e2=>?_)]
  ·exact hq
  ·obtain⟨_,c2,q2⟩:=hro.block q e2.symm;rw[hq] at q2;cases q2;exact he rfl
 have u:∀ j,j≠7->upB l 7 j=l j/\upV vs 7 v j=vs j:=(fun j hj=>⟨upB_ne hj,upV_ne hj⟩);refine⟨h.tn.trans htn (fun _ _ h=>h) (fun _ _ h=>.inr (.inl h)),fun j hj j1 j2 j3 j4 j5 hl=>?_,?_,fun hl=>?_,fun hl=>?_,fun _ h2=>?_,fun h1 h2=>?_,fun _=>⟨g,cap,upV_eq.trans hv,hr,ho.imp (fun h=>h) (fun h2=>Nat.le_trans h.tn.size h2)⟩,fun hl=>?_⟩
 ·rw[(u j j2).2];rw[(u j j2).1] at hl;exact h.ev j hj j1 j2 j3 j4 j5 hl
 ·rw[(u 16 (by decide)).1,h16];have hb:=h.box;rw[h16] at hb;exact no b _ 54 (by decide) hb
 ·rw[upB_eq] at hl;cases hl
 ·rw[(u 13 (by decide)).1] at hl
  exact (h.r13 hl).by_other hg (fun k cur e1 e2=>by
   obtain⟨_,c2,q2⟩:=hro.block k e1;rw[e2] at q2;cases q2)
 ·rw[upB_eq] at h2;cases h2
 ·rw[(u 12 (by decide)).1] at h1;rw[(u 13 (by decide)).1] at h2;rw[(u 12 (by decide)).2]
  obtain⟨g0,q1,q2,q3⟩:=h.f12 h1 h2;exact⟨g0,q1,no g0 _ 3 (by decide) q2,q3⟩
 ·rw[(u 13 (by decide)).1,h13] at hl;cases hl
theorem AJ.s13 (h:AJ W0 E b sv ov nv n xs ys l vs w) (h7:l 7=true) (h13:l 13=false) (h16:l 16=false) {v:Value} {g cap:Nat} (hv:v=.slice (some ⟨g,0,none⟩) (n+1) cap)
  (hr:HRow w' 0 3 1 (.slice (some ⟨g,0,none⟩) (n+1) cap) (n+1) (ys++[.int .i64 0])) (hg:w.grownBy w' nv.ownBlock) (ho:nv.ownBlock=some g∨w.heap.size<=g):AJ W0 E b sv ov nv n xs ys (upB l 13) (upV vs 13 v) w':=by
 have hro:=h.r13 h13;have htn:=tn_row hro rfl hg;have u:∀ j,j≠13->upB l 13 j=l j/\upV vs 13 v j=vs j:=(fun j hj=>⟨upB_ne hj,upV_ne hj⟩);refine⟨h.tn.trans htn (fun _ _ h=>h) (fun _ _ h=>.inr (.inr h)),fun j hj j1 j2 j3 j4 j5 hl=>?_,?_,fun hl=>?_,fun hl=>?_,fun _ h2=>?_,fun _ h2=>?_,fun hl=>?_,fun _=>⟨g,cap,upV_eq.trans hv,hr,ho.imp (fun h=>h) (fun h2=>Nat.le_trans h.tn.size h2)⟩⟩
 ·rw[(u j j4).2];rw[(u j j4).1] at hl;exact h.ev j hj j1 j2 j3 j4 j5 hl
 ·rw[(u 16 (by decide)).1,h16];have hb:=h.box;rw[h16] at hb;rw[hg.block b (lt_of_heap hb) (fun e2=>?_)]
  ·exact hb
  ·obtain⟨_,c2,q2⟩:=hro.block b e2.symm;rw[hb] at q2;cases q2
 ·rw[(u 7 (by decide)).1,h7] at hl;cases hl
 ·rw[upB_eq] at hl;cases hl
 ·rw[(u 7 (by decide)).1,h7] at h2;cases h2
 ·rw[upB_eq] at h2;cases h2
 ·rw[(u 7 (by decide)).2];obtain⟨g7,c7,q1,q2,q3⟩:=h.f7 h7
  exact⟨g7,c7,q1,q2.by_other hg (fun k cur e1 e2=>by
   obtain⟨_,c2,q2⟩:=hro.block k e1;rw[e2] at q2;cases q2),q3⟩
theorem AJ.s16 (h:AJ W0 E b sv ov nv n xs ys l vs w) (h7:l 7=true) (h13:l 13=true) (h16:l 16=false) (v:Value):AJ W0 E b sv ov nv n xs ys (upB l 16) (upV vs 16 v) (w.setCell ⟨b,1,none⟩ (vs 7)):=by
 have hb:=h.box;rw[h16] at hb;have hbox:=heap_setCell_same w b 1 _ 54 (vs 7) hb;have oth:∀ q,q≠b->(w.setCell ⟨b,1,none⟩ (vs 7)).heap[q]?=w.heap[q]?:=(fun q hq=>heap_setCell_other w ⟨b,1,none⟩ q (vs 7) hq);have htn:Tn (fun q=>q=b) w (w.setCell ⟨b,1,none⟩ (vs 7)):=Tn.of_chg ⟨rfl,rfl,rfl,Nat.le_of_eq (by simp),fun q _ hn=>oth q hn⟩ (fun q _ hq=>by have hq:q=b:=hq;subst hq;exact .inl ⟨_,54,hb,rfl⟩)
 have nb:∀ {base size m:Nat} {e:TypeId} {v:Value} {zs:List Value},HRow w base e size v m zs->e≠54->HRow (w.setCell ⟨b,1,none⟩ (vs 7)) base e size v m zs:=fun hr he=>hr.of (fun k hk=>oth k (fun e2=>by
  obtain⟨_,c2,q2⟩:=hr.block k hk;rw[e2,hb] at q2;cases q2;exact he rfl))
 have u:∀ j,j≠16->upB l 16 j=l j/\upV vs 16 v j=vs j:=(fun j hj=>⟨upB_ne hj,upV_ne hj⟩);refine⟨h.tn.trans htn (fun _ _ h=>h) (fun _ _ h=>.inl h),fun j hj j1 j2 j3 j4 j5 hl=>?_,?_,fun hl=>?_,fun hl=>?_,fun _ h2=>?_,fun _ h2=>?_,fun hl=>?_,fun hl=>?_⟩
 ·rw[(u j j5).2];rw[(u j j5).1] at hl;exact h.ev j hj j1 j2 j3 j4 j5 hl
 ·rw[upB_eq,if_pos rfl,(u 7 (by decide)).2,hbox];rfl
 ·rw[(u 7 (by decide)).1,h7] at hl;cases hl
 ·rw[(u 13 (by decide)).1,h13] at hl;cases hl
 ·rw[(u 7 (by decide)).1,h7] at h2;cases h2
 ·rw[(u 13 (by decide)).1,h13] at h2;cases h2
 ·rw[(u 7 (by decide)).2];obtain⟨g7,c7,q1,q2,q3⟩:=h.f7 h7;exact⟨g7,c7,q1,nb q2 (by decide),q3⟩
 ·rw[(u 13 (by decide)).2];obtain⟨g7,c7,q1,q2,q3⟩:=h.f13 h13;exact⟨g7,c7,q1,nb q2 (by decide),q3⟩
end
abbrev rowsN (tt:List RT):List (List R1):=tt.map (·.A)
section
variable {W:World} {b:Nat} {us:List T} {tt:List RT} {i:NI} {O:Nat->Nat}
structure NVn where
 t:Nat
 k:Nat
 c:Nat
 gs:Nat
 cs:Nat
 go:Nat
 co:Nat
 gr:Nat
 na:Nat
 cr:Nat
 gv:Nat
 cv:Nat
 nc:Nat
 bc:Nat
 oc:Nat
 kc:Nat
 pd:Option Addr
 nd:Nat
 kd:Nat
 nm:ByteArray
 key:ByteArray
structure NV (w:World) (b mt:Nat) (id:Int) (y:ByteArray) (u:T3) (tg:ByteArray) (x:NVn):Prop where
 b0:w.cell? ⟨b,0,none⟩=some (.slice (some ⟨x.gs,0,none⟩) mt x.cs)
 b1:w.cell? ⟨b,1,none⟩=some (.slice (some ⟨x.go,0,none⟩) mt x.co)
 s0:w.cell? ⟨x.gs,x.t*4,none⟩=some (.string x.nm)
 s1:w.cell? ⟨x.gs,x.t*4+1,none⟩=some (.slice (some ⟨x.bc,x.oc,none⟩) x.nc x.kc)
 s2:w.cell? ⟨x.gs,x.t*4+2,none⟩=some (.string x.key)
 s3:w.cell? ⟨x.gs,x.t*4+3,none⟩=some (.slice x.pd x.nd x.kd)
 o0:w.cell? ⟨x.go,x.t,none⟩=some (.slice (some ⟨x.gr,0,none⟩) x.na x.cr)
 r0:w.cell? ⟨x.gr,x.k*2+1,none⟩=some (.slice (some ⟨x.gv,0,none⟩) x.nc x.cv)
 v0:w.cell? ⟨x.gv,x.c*3,none⟩=some (.int .i64 u.1)
 v1:w.cell? ⟨x.gv,x.c*3+1,none⟩=some (.int .i64 u.2.1)
 v2:w.cell? ⟨x.gv,x.c*3+2,none⟩=some (.string u.2.2)
 tg:w.cell? ⟨x.bc,x.oc+x.c*4+3,none⟩=some (.string tg)
 bl:b<w.heap.size
 sl:x.gs<w.heap.size
 ol:x.go<w.heap.size
 rl:x.gr<w.heap.size
 vl:x.gv<w.heap.size
 cl:x.bc<w.heap.size
 atc:Calls Tryz.prog 66 #[(Value.pointer (some ⟨b,0,none⟩)),.int .i64 (x.t:Int),.int .i64 id] w fun e w'=>e=.returned (.int .i64 (x.k:Int))/\w'=w
 col:Calls Tryz.prog 69 #[.agg #[.string x.nm,.slice (some ⟨x.bc,x.oc,none⟩) x.nc x.kc,.string x.key,.slice x.pd x.nd x.kd],.string y] w fun e w'=>e=.returned (.int .i64 (x.c:Int))/\Below w.heap.size w w'
end
