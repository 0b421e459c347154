import Derived.Test.YtjepplacnaoomaaGreatZc44
import Derived.Test.YtjepplacnaoomaaGreatZc30
import Derived.Test.YtjepplacnaoomaaGreatZc48
namespace Go.Proofs.YtjepplacnaoomaaGreat
open Go Go.RowKit Go.Proofs Co Co.S
theorem app_cpy {t e : TypeId} {z : Value} {size bytes : Nat} (ht : Tryz.prog.underlying t=some (.slice e)) (hinf : (Tryz.prog.info? e).map (fun i=>(i.zero,i.size,i.bytes))=some (some z,size,bytes)) (hzs : z.cells.size=size) (hsz : 0<size) (hby : bytes≤80)
  (y : World) {v : Value} {n : Nat} {xs : List Value} {base : Nat} (hr : HRow y base e size v n xs) (h0 : 0<n) (hn : n≤1000000) (h1 : ∀ u∈xs,u.oneCell'=true) :
  ∃ v' w',(Builtin.append_ #[t,t] t #[.slice none 0 0,v]).run Tryz.prog y=.ok v' w'∧HRow w' y.heap.size e size v' n xs∧Below y.heap.size y w':=by
 obtain ⟨i0,hi0,hz0,hz1,hz2⟩:=info_parts hinf
 obtain ⟨g,c,rfl,_,_⟩:=hr.slice h0
 have hmul : (0+n)*bytes≤140737488355328:=by
  have : (0+n)*bytes≤1000000*80:=Nat.mul_le_mul (by omega) hby
  omega
 obtain ⟨g',cap,w',h2,h3,h4,_⟩:=run_append_has (P:=Tryz.prog) y y.heap.size t t e i0 z size bytes ht hi0 hz0 hz1 hz2 hzs hsz (HRow.nil (w:=y) (base:=y.heap.size)) ⟨g,0,none⟩ n c xs hr.1 (fun j u hj=>hr.cells_add hj) h1 h0 (by unfold maxLen; omega) hmul (Nat.le_refl _)
 rw [Nat.zero_add,List.nil_append] at *
 exact ⟨_,w',h2,h3,h4.os,h4.tape,h4.output,h4.size,fun q hq=>h4.block q hq (by simp [Value.ownBlock])⟩
structure CpN (W w : World) (O : Nat) (ts : List T) (tt : List RT) (fs : List (Value×Value)) (sv ov nv : Value) (lab : Nat→Nat) (cs : List RT) : Prop where
 bl : Below W.heap.size W w
 lo : ∀ q,lab q≠0→W.heap.size≤q∧q<w.heap.size
 box : w.heap[O]?=some (.cells #[sv,ov,nv] 42)
 form : HRow w 0 46 4 sv ts.length (cellsF fs ts)
 nxs : HRow w 0 3 1 nv ts.length (tt.map fun x=>.int .i64 (x.nx : Int))
 outer : HRow w 0 55 1 ov cs.length (cs.map (·.rv))
 tab : ∀ j (h : j<ts.length) (h' : j<cs.length),RTok w ts[j] cs[j] lab j
 key : cs.map keyN=(tt.take cs.length).map keyN
 o1 : lab O=1
 o2 : ∀ q,sv.ownBlock=some q→lab q=2
 o3 : ∀ q,ov.ownBlock=some q→lab q=3
 o4 : ∀ q,nv.ownBlock=some q→lab q=4
section
variable {W w w' : World} {O : Nat} {ts : List T} {tt cs : List RT} {fs : List (Value×Value)} {sv ov nv lv : Value} {lab lab' : Nat→Nat} {S : Nat→Prop}
theorem CpN.tn (h : CpN W w O ts tt fs sv ov nv lab cs) (hk : Tn S w w') (hs : ∀ q,S q→lab q=0∨5+2*cs.length≤lab q) (hs2 : ∀ q,S q→W.heap.size≤q) (hO : ∀ q,q<w.heap.size→lab' q=lab q) (hn : ∀ q,w.heap.size≤q→lab' q≠0→q<w'.heap.size) : CpN W w' O ts tt fs sv ov nv lab' cs:=by
 have hb : ∀ q m,lab q=m→m≠0→m<5+2*cs.length→w'.heap[q]?=w.heap[q]?:=fun q m hq h0 h5=>hk.chg.block q (h.lo q (by omega)).2 (fun hS=>by have:=hs q hS; omega)
 have hl : ∀ {u : Value} {q m : Nat},u.ownBlock=some q→(∀ q,u.ownBlock=some q→lab q=m)→m≠0→lab' q=m:=fun {u q m} hq hu h0=>(hO q (h.lo q (by rw [hu q hq]; exact h0)).2).trans (hu q hq)
 refine ⟨h.bl.trans ⟨hk.chg.os,hk.chg.tape,hk.chg.output,hk.chg.size,fun q hq=>hk.chg.block q (Nat.lt_of_lt_of_le hq h.bl.size) (fun hS=>by have:=hs2 q hS; omega)⟩,fun q hq=>?_,(hb O 1 h.o1 (by decide) (by omega)).trans h.box,h.form.of (fun q hq=>hb q 2 (h.o2 q hq) (by decide) (by omega)),h.nxs.of (fun q hq=>hb q 4 (h.o4 q hq) (by decide) (by omega)),h.outer.of (fun q hq=>hb q 3 (h.o3 q hq) (by decide) (by omega)),
  fun j a c=>(h.tab j a c).tn hk (fun q hq=>by have:=hs q hq; omega) hO,h.key,(hO O (lt_of_heap h.box)).trans h.o1,fun q hq=>hl hq h.o2 (by decide),fun q hq=>hl hq h.o3 (by decide),fun q hq=>hl hq h.o4 (by decide)⟩
 by_cases e : q<w.heap.size
 ·rw [hO q e] at hq
  exact ⟨(h.lo q hq).1,Nat.lt_of_lt_of_le e hk.chg.size⟩
 ·exact ⟨Nat.le_trans h.bl.size (by omega),hn q (by omega) hq⟩
theorem CpN.round (h : CpN W w O ts tt fs sv ov nv lab cs) {t : T} {nx m : Nat} {B : List R1} {vl : List Value} (hm : cs.length=m) (hk : RTok w t ⟨lv,nx,B,vl⟩ lab m) {a : R1} {v : Value} (hv : HRow w' 0 26 3 v a.2.length (cells3 a.2)) (hlen : a.2.length=t.cols.length)
  {g cap : Nat} (hr : HRow w' 0 58 2 (.slice (some ⟨g,0,none⟩) (B.length+1) cap) (B.length+1) (cellsR B vl ++ [.int .i64 a.1,v])) (hgr : w.grownBy w' lv.ownBlock) (hg : lv.ownBlock=some g∨w.heap.size≤g)
  (hvb : ∀ q,v.ownBlock=some q→w.heap.size≤q∧q≠g) (hid : ∀ x∈B,x.1<a.1) (hnx : a.1<(nx : Int)) :
  ∃ lab',CpN W w' O ts tt fs sv ov nv lab' cs∧RTok w' t ⟨.slice (some ⟨g,0,none⟩) (B.length+1) cap,nx,B ++ [a],vl ++ [v]⟩ lab' m:=by
 have hrl : ∀ q,lv.ownBlock=some q→lab q=5+2*m:=hk.orv
 have hchg : Chg (fun q=>lv.ownBlock=some q) w w':=⟨hgr.os,hgr.tape,hgr.output,hgr.size,fun q hq hn=>hgr.block q hq (fun e=>hn e.symm)⟩
 have htn : Tn (fun q=>lv.ownBlock=some q) w w':=Tn.of_chg hchg (fun q _ hq=>.inl (by
  obtain ⟨_,cur,hb⟩:=hk.rows.block q hq
  exact ⟨cur,58,hb,rfl⟩))
 have hgw:=(HRow.lt hr g rfl).2
 have hvl : ∀ k (hk' : k<vl.length) q,vl[k].ownBlock=some q→q<w.heap.size:=fun k hk' q hq=>(h.lo q (by rw [hk.ovs k hk' q hq]; omega)).2
 have hkeep : ∀ q,lab q=6+2*m→w'.heap[q]?=w.heap[q]?:=fun q hq=>hchg.block q (h.lo q (by omega)).2 (fun hS=>by have:=hrl q hS; omega)
 have hE : ∀ q,q<w.heap.size→(if q<w.heap.size then lab q else if q=g then 5+2*m else if v.ownBlock=some q then 6+2*m else 0)=lab q:=fun q hq=>if_pos hq
 refine ⟨fun q=>if q<w.heap.size then lab q else if q=g then 5+2*m else if v.ownBlock=some q then 6+2*m else 0,h.tn htn (fun q hq=>.inr (by rw [hrl q hq,hm]; exact Nat.le_refl _)) (fun q hq=>(h.lo q (by rw [hrl q hq]; omega)).1) hE (fun q hq hn=>?_),⟨?_,by simp [hk.n],fun k hkk hk'=>?_,fun j k hj hkk hne q hq=>?_,fun x hx=>?_,?_,fun x hx=>?_,fun q hq=>?_,fun k hkk q hq=>?_⟩⟩
 ·have hn : (if q<w.heap.size then lab q else if q=g then 5+2*m else if v.ownBlock=some q then 6+2*m else 0)≠0:=hn
  rw [if_neg (by omega)] at hn
  by_cases e2 : q=g
  ·rw [e2]; exact hgw
  ·rw [if_neg e2] at hn
   by_cases e3 : v.ownBlock=some q
   ·exact (HRow.lt hv q e3).2
   ·rw [if_neg e3] at hn; exact absurd rfl hn
 ·show HRow w' 0 58 2 (.slice (some ⟨g,0,none⟩) (B.length+1) cap) (B ++ [a]).length (cellsR (B ++ [a]) (vl ++ [v]))
  rw [show B ++ [a]=B ++ [(a.1,a.2)] from rfl,cellsR_snoc hk.n,List.length_append]
  exact hr
 ·rcases snoc_at hk' with ⟨e1,e2⟩ | ⟨e1,e2⟩
  ·have hkA : k<B.length:=by rw [← hk.n]; exact e1
   show HRow w' 0 26 3 ((vl ++ [v])[k]) _ _
   rw [e2,List.getElem_append_left hkA]
   exact (hk.vals k hkA e1).of (fun q hq=>hkeep q (hk.ovs k e1 q hq))
  ·show HRow w' 0 26 3 ((vl ++ [v])[k]) _ _
   rw [e2]
   have hkA : k=B.length:=e1.trans hk.n
   subst hkA
   have e3 : (B ++ [a])[B.length]'hkk=a:=by simp
   rw [e3]
   exact hv
 ·have hq : (vl ++ [v])[j].ownBlock=some q:=hq
  show (vl ++ [v])[k].ownBlock≠some q
  rcases snoc_at hj with ⟨a1,a2⟩ | ⟨a1,a2⟩ <;> rcases snoc_at hkk with ⟨b1,b2⟩ | ⟨b1,b2⟩
  ·rw [a2] at hq; rw [b2]
   exact hk.sep j k a1 b1 hne q hq
  ·rw [a2] at hq; rw [b2]
   intro e
   have:=hvl j a1 q hq
   have:=(hvb q e).1
   omega
  ·rw [a2] at hq; rw [b2]
   intro e
   have:=hvl k b1 q e
   have:=(hvb q hq).1
   omega
  ·omega
 ·rcases List.mem_append.1 hx with hx | hx
  ·exact hk.len x hx
  ·rw [List.mem_singleton.1 hx]; exact hlen
 ·show (B ++ [a]).Pairwise _
  rw [List.pairwise_append]
  exact ⟨hk.srt,List.pairwise_singleton _ _,fun x hx c hc=>by rw [List.mem_singleton.1 hc]; exact hid x hx⟩
 ·rcases List.mem_append.1 hx with hx | hx
  ·exact hk.rng x hx
  ·rw [List.mem_singleton.1 hx]; exact hnx
 ·cases hq
  show (if g<w.heap.size then lab g else if g=g then 5+2*m else _)=5+2*m
  rcases hg with h1 | h1
  ·rw [if_pos (h.lo g (by rw [hrl g h1]; omega)).2]; exact hrl g h1
  ·rw [if_neg (by omega),if_pos rfl]
 ·have hq : (vl ++ [v])[k].ownBlock=some q:=hq
  show (if q<w.heap.size then lab q else if q=g then 5+2*m else if v.ownBlock=some q then 6+2*m else 0)=6+2*m
  rcases snoc_at hkk with ⟨a1,a2⟩ | ⟨a1,a2⟩
  ·rw [a2] at hq
   rw [if_pos (hvl k a1 q hq)]; exact hk.ovs k a1 q hq
  ·rw [a2] at hq
   obtain ⟨c1,c2⟩:=hvb q hq
   rw [if_neg (by omega),if_neg c2,if_pos hq]
theorem CpN.more (h : CpN W w O ts tt fs sv ov nv lab cs) (hct : cs.length<ts.length) (hct2 : cs.length<tt.length) {x : RT} (hx : RTok w (ts[cs.length]'hct) x lab cs.length) (hkey : keyN x=keyN (tt[cs.length]'hct2))
  {g cap : Nat} (hr : HRow w' 0 55 1 (.slice (some ⟨g,0,none⟩) (cs.length+1) cap) (cs.length+1) (cs.map (·.rv) ++ [x.rv])) (hgr : w.grownBy w' ov.ownBlock) (hg : ov.ownBlock=some g∨w.heap.size≤g) :
  ∃ lab',CpN W (w'.setCell ⟨O,1,none⟩ (.slice (some ⟨g,0,none⟩) (cs.length+1) cap)) O ts tt fs sv (.slice (some ⟨g,0,none⟩) (cs.length+1) cap) nv lab' (cs ++ [x]):=by
 have hOl:=lt_of_heap h.box
 have hOov : ov.ownBlock≠some O:=fun e=>by have:=h.o3 O e; rw [h.o1] at this; cases this
 have hOg : O≠g:=fun e=>by
  rcases hg with h1 | h1
  ·exact hOov (e ▸ h1)
  ·omega
 have hbox' : w'.heap[O]?=some (.cells #[sv,ov,nv] 42):=(hgr.block O hOl (fun e=>hOov e.symm)).trans h.box
 have hs:=heap_setCell_same w' O 1 _ _ (.slice (some ⟨g,0,none⟩) (cs.length+1) cap) hbox'
 have hother : ∀ q,q≠O→(w'.setCell ⟨O,1,none⟩ (.slice (some ⟨g,0,none⟩) (cs.length+1) cap)).heap[q]?=w'.heap[q]?:=fun q hq=>heap_setCell_other _ ⟨O,1,none⟩ q _ hq
 have hsz : (w'.setCell ⟨O,1,none⟩ (.slice (some ⟨g,0,none⟩) (cs.length+1) cap)).heap.size=w'.heap.size:=by simp
 have ho1 : (w'.setCell ⟨O,1,none⟩ (.slice (some ⟨g,0,none⟩) (cs.length+1) cap)).os=w'.os:=rfl
 have ho2 : (w'.setCell ⟨O,1,none⟩ (.slice (some ⟨g,0,none⟩) (cs.length+1) cap)).tape=w'.tape:=rfl
 have ho3 : (w'.setCell ⟨O,1,none⟩ (.slice (some ⟨g,0,none⟩) (cs.length+1) cap)).output=w'.output:=rfl
 generalize w'.setCell ⟨O,1,none⟩ (.slice (some ⟨g,0,none⟩) (cs.length+1) cap)=w2 at hs hother hsz ho1 ho2 ho3 ⊢
 have hchg : Chg (fun q=>q=O∨ov.ownBlock=some q) w w2:=⟨ho1.trans hgr.os,ho2.trans hgr.tape,ho3.trans hgr.output,by rw [hsz]; exact hgr.size,fun q hq hn=>by
  rw [hother q (fun e=>hn (.inl e)),hgr.block q hq (fun e=>hn (.inr e.symm))]⟩
 have htn : Tn (fun q=>q=O∨ov.ownBlock=some q) w w2:=Tn.of_chg hchg (fun q _ hq=>.inl (by
  rcases hq with rfl | hq
  ·exact ⟨_,42,h.box,rfl⟩
  ·obtain ⟨_,cur,hb⟩:=h.outer.block q hq
   exact ⟨cur,55,hb,rfl⟩))
 have hgw:=(HRow.lt hr g rfl).2
 have hE : ∀ q,q<w.heap.size→(if q<w.heap.size then lab q else if q=g then 3 else 0)=lab q:=fun q hq=>if_pos hq
 have hSl : ∀ q,q=O∨ov.ownBlock=some q→lab q=1∨lab q=3:=fun q hq=>by
  rcases hq with rfl | hq
  ·exact .inl h.o1
  ·exact .inr (h.o3 q hq)
 have hb : ∀ q m,lab q=m→m≠0→m≠1→m≠3→w2.heap[q]?=w.heap[q]?:=fun q m hq h0 h1 h3=>hchg.block q (h.lo q (by omega)).2 (fun hS=>by have:=hSl q hS; omega)
 have hl : ∀ {u : Value} {q m : Nat},u.ownBlock=some q→(∀ q,u.ownBlock=some q→lab q=m)→m≠0→(if q<w.heap.size then lab q else if q=g then 3 else 0)=m:=fun {u q m} hq hu h0=>(hE q (h.lo q (by rw [hu q hq]; exact h0)).2).trans (hu q hq)
 refine ⟨fun q=>if q<w.heap.size then lab q else if q=g then 3 else 0,h.bl.trans ⟨hchg.os,hchg.tape,hchg.output,hchg.size,fun q hq=>hchg.block q (Nat.lt_of_lt_of_le hq h.bl.size) (fun hS=>by
   have h1:=hSl q hS
   have:=(h.lo q (by omega)).1; omega)⟩,fun q hq=>?_,hs,h.form.of (fun q hq=>hb q 2 (h.o2 q hq) (by decide) (by decide) (by decide)),h.nxs.of (fun q hq=>hb q 4 (h.o4 q hq) (by decide) (by decide) (by decide)),?_,
  fun j a c=>?_,?_,(hE O hOl).trans h.o1,fun q hq=>hl hq h.o2 (by decide),fun q hq=>?_,fun q hq=>hl hq h.o4 (by decide)⟩
 ·have hq : (if q<w.heap.size then lab q else if q=g then 3 else 0)≠0:=hq
  by_cases e : q<w.heap.size
  ·rw [if_pos e] at hq
   exact ⟨(h.lo q hq).1,Nat.lt_of_lt_of_le e hchg.size⟩
  ·rw [if_neg e] at hq
   by_cases e2 : q=g
   ·subst e2; exact ⟨Nat.le_trans h.bl.size (by omega),by rw [hsz]; exact hgw⟩
   ·rw [if_neg e2] at hq; exact absurd rfl hq
 ·rw [List.length_append,List.map_append]
  exact hr.of (fun q hq=>by cases hq; exact hother g (fun e=>hOg e.symm))
 ·by_cases e : j<cs.length
  ·rw [List.getElem_append_left e]
   exact (h.tab j a e).tn htn (fun q hq=>by have:=hSl q hq; omega) hE
  ·have e2 : j=cs.length:=by rw [List.length_append] at c; simp at c; omega
   subst e2
   rw [List.getElem_append_right (Nat.le_refl _)]
   simp only [Nat.sub_self,List.getElem_cons_zero]
   exact hx.tn htn (fun q hq=>by have:=hSl q hq; omega) hE
 ·rw [List.length_append,List.map_append,h.key]
  show _=(tt.take (cs.length+1)).map keyN
  rw [List.take_add_one,List.getElem?_eq_getElem hct2,List.map_append]
  show _ ++ [keyN x]=_ ++ [keyN _]
  rw [hkey]
 ·cases hq
  show (if g<w.heap.size then lab g else if g=g then 3 else 0)=3
  rcases hg with h1 | h1
  ·rw [if_pos (h.lo g (by rw [h.o3 g h1]; decide)).2]; exact h.o3 g h1
  ·rw [if_neg (by omega),if_pos rfl]
theorem CpN.fin {b : Nat} {i : NI} {Ob : Nat→Nat} (hd : DbN W b ts tt i Ob) (h : CpN W w O ts tt i.fs sv ov nv lab cs) (hn : cs.length=ts.length) : DbN w O ts cs ⟨sv,ov,nv,i.fs⟩ lab∧cs.map keyN=tt.map keyN:=by
 have hkey : cs.map keyN=tt.map keyN:=by rw [h.key,List.take_of_length_le (by rw [hd.n,hn]; exact Nat.le_refl _)]
 refine ⟨⟨h.box,hn,hd.fn,h.form,fun j a c=>(hd.rd j a c).kp (Tn.of_below (S:=fun _=>False) h.bl).kpX,hn ▸ h.outer,?_,h.tab,h.o1,h.o2,h.o3,h.o4,fun q hq=>(h.lo q hq).2⟩,hkey⟩
 have e : cs.map (fun x=>Value.int .i64 (x.nx : Int))=tt.map (fun x=>Value.int .i64 (x.nx : Int)):=by
  have h1 : ∀ l : List RT,l.map (fun x=>Value.int .i64 (x.nx : Int))=(l.map keyN).map (fun x=>Value.int .i64 (x.1 : Int)):=fun l=>by rw [List.map_map]; rfl
  rw [h1,h1,hkey]
 show HRow w 0 3 1 nv ts.length _
 rw [e]; exact h.nxs
end
structure KJ (W0 : World) (E : Nat→Value) (rv : Value) (n : Nat) (xs : List Value) (id : Int) (vals : List T3) (l : Nat→Bool) (vs : Nat→Value) (w : World) : Prop where
 gb : W0.grownBy w rv.ownBlock
 f0 : l 26=false→Below W0.heap.size W0 w
 ev : ∀ j,j<23→l j=true→vs j=E j
 f23 : l 23=true→∃ g c,vs 23=.slice (some ⟨g,0,none⟩) vals.length c∧HRow w 0 26 3 (.slice (some ⟨g,0,none⟩) vals.length c) vals.length (cells3 vals)∧W0.heap.size≤g
 f24 : l 24=true→vs 24=.agg #[.int .i64 id,vs 23]
 f25 : l 25=true→l 26=false→∃ y,w=y.alloc (.cells #[.int .i64 id,vs 23] 58)∧vs 25=.slice (some ⟨y.heap.size,0,none⟩) 1 1∧Below W0.heap.size W0 y∧∀ q,(vs 23).ownBlock=some q→q<y.heap.size
 f26 : l 26=true→∃ g cap,vs 26=.slice (some ⟨g,0,none⟩) (n+1) cap∧HRow w 0 58 2 (.slice (some ⟨g,0,none⟩) (n+1) cap) (n+1) (xs ++ [.int .i64 id,vs 23])∧(rv.ownBlock=some g∨W0.heap.size≤g)∧∀ q,(vs 23).ownBlock=some q→q≠g
section
open Par
variable {W0 w w' : World} {E : Nat→Value} {rv : Value} {n : Nat} {xs : List Value} {id : Int} {vals : List T3} {l : Nat→Bool} {vs : Nat→Value}
theorem KJ.up (h : KJ W0 E rv n xs id vals l vs w) (i : Nat) (hi : i<23) : KJ W0 E rv n xs id vals (upB l i) (upV vs i (E i)) w:=by
 have k : ∀ j,j=23∨j=24∨j=25∨j=26→upB l i j=l j∧upV vs i (E i) j=vs j:=fun j hj=>⟨upB_ne (by omega),upV_ne (by omega)⟩
 refine ⟨h.gb,fun hl=>h.f0 ((k 26 (by simp)).1 ▸ hl),fun j hj hl=>?_,fun hl=>?_,fun hl=>?_,fun h1 h2=>?_,fun hl=>?_⟩
 ·by_cases e : j=i
  ·subst e; rw [upV_eq]
  ·rw [upV_ne e]; rw [upB_ne e] at hl; exact h.ev j hj hl
 ·rw [(k 23 (by simp)).1] at hl
  rw [(k 23 (by simp)).2]; exact h.f23 hl
 ·rw [(k 24 (by simp)).1] at hl
  rw [(k 24 (by simp)).2,(k 23 (by simp)).2]; exact h.f24 hl
 ·rw [(k 25 (by simp)).1] at h1
  rw [(k 26 (by simp)).1] at h2
  rw [(k 25 (by simp)).2,(k 23 (by simp)).2]; exact h.f25 h1 h2
 ·rw [(k 26 (by simp)).1] at hl
  rw [(k 26 (by simp)).2,(k 23 (by simp)).2]; exact h.f26 hl
theorem KJ.s23 (h : KJ W0 E rv n xs id vals l vs w) (h15 : l 24=false) (h16 : l 25=false) (h17 : l 26=false) {g c : Nat} (hr : HRow w' w.heap.size 26 3 (.slice (some ⟨g,0,none⟩) vals.length c) vals.length (cells3 vals)) (hb : Below w.heap.size w w') :
  KJ W0 E rv n xs id vals (upB l 23) (upV vs 23 (.slice (some ⟨g,0,none⟩) vals.length c)) w':=by
 have hb2:=below_on (h.f0 h17) hb
 refine ⟨grownB hb2,fun _=>hb2,fun j hj hl=>?_,fun _=>⟨g,c,upV_eq,HRow.mono hr (Nat.zero_le _),Nat.le_trans (h.f0 h17).size (HRow.lt hr g rfl).1⟩,fun hl=>?_,fun hl=>?_,fun hl=>?_⟩
 ·rw [upV_ne (by omega)]; rw [upB_ne (by omega)] at hl; exact h.ev j hj hl
 ·rw [upB_ne (by decide),h15] at hl; cases hl
 ·rw [upB_ne (by decide),h16] at hl; cases hl
 ·rw [upB_ne (by decide),h17] at hl; cases hl
theorem KJ.s24 (h : KJ W0 E rv n xs id vals l vs w) (h16 : l 25=false) (h17 : l 26=false) : KJ W0 E rv n xs id vals (upB l 24) (upV vs 24 (.agg #[.int .i64 id,vs 23])) w:=by
 refine ⟨h.gb,fun _=>h.f0 h17,fun j hj hl=>?_,fun hl=>?_,fun _=>?_,fun hl=>?_,fun hl=>?_⟩
 ·rw [upV_ne (by omega)]; rw [upB_ne (by omega)] at hl; exact h.ev j hj hl
 ·rw [upB_ne (by decide)] at hl
  rw [upV_ne (by decide)]; exact h.f23 hl
 ·rw [upV_eq,upV_ne (by decide)]
 ·rw [upB_ne (by decide),h16] at hl; cases hl
 ·rw [upB_ne (by decide),h17] at hl; cases hl
theorem KJ.s25 (h : KJ W0 E rv n xs id vals l vs w) (h14 : l 23=true) (h17 : l 26=false) : KJ W0 E rv n xs id vals (upB l 25) (upV vs 25 (.slice (some ⟨w.heap.size,0,none⟩) 1 1)) (w.alloc (.cells #[.int .i64 id,vs 23] 58)):=by
 have hb2:=below_on (h.f0 h17) (below_alloc w (.cells #[.int .i64 id,vs 23] 58))
 obtain ⟨g,c,e,h1,h2⟩:=h.f23 h14
 refine ⟨grownB hb2,fun _=>hb2,fun j hj hl=>?_,fun hl=>?_,fun hl=>?_,fun _ _=>⟨w,?_,upV_eq,h.f0 h17,fun q hq=>?_⟩,fun hl=>?_⟩
 ·rw [upV_ne (by omega)]; rw [upB_ne (by omega)] at hl; exact h.ev j hj hl
 ·rw [upV_ne (by decide)]; exact ⟨g,c,e,h1.later (below_alloc _ _),h2⟩
 ·rw [upB_ne (by decide)] at hl
  rw [upV_ne (by decide),upV_ne (by decide)]; exact h.f24 hl
 ·rw [upV_ne (by decide)]
 ·rw [upV_ne (by decide),e] at hq
  exact (HRow.lt h1 q hq).2
 ·rw [upB_ne (by decide),h17] at hl; cases hl
theorem KJ.s26 (h : KJ W0 E rv n xs id vals l vs w) (h14 : l 23=true) (hW : HRow W0 0 58 2 rv n xs) {y : World} {v : Value} (h16 : w=y.alloc (.cells #[.int .i64 id,vs 23] 58)) (hy : Below W0.heap.size W0 y) (h14y : ∀ q,(vs 23).ownBlock=some q→q<y.heap.size) {g cap : Nat}
  (hv : v=.slice (some ⟨g,0,none⟩) (n+1) cap) (hr : HRow w' 0 58 2 (.slice (some ⟨g,0,none⟩) (n+1) cap) (n+1) (xs ++ [.int .i64 id,vs 23])) (hg : y.grownBy w' rv.ownBlock) (ho : rv.ownBlock=some g∨y.heap.size≤g) :
  KJ W0 E rv n xs id vals (upB l 26) (upV vs 26 v) w':=by
 obtain ⟨g14,c,e,h1,h2⟩:=h.f23 h14
 have hrl : ∀ q,rv.ownBlock=some q→q<W0.heap.size:=fun q hq=>(HRow.lt hW q hq).2
 have hlt : g14<y.heap.size:=h14y g14 (by rw [e]; rfl)
 have hgb : W0.grownBy w' rv.ownBlock:=⟨hg.os.trans hy.os,hg.tape.trans hy.tape,hg.output.trans hy.output,Nat.le_trans hy.size hg.size,fun q hq hn=>(hg.block q (Nat.lt_of_lt_of_le hq hy.size) hn).trans (hy.block q hq)⟩
 refine ⟨hgb,fun hl=>?_,fun j hj hl=>?_,fun hl=>?_,fun hl=>?_,fun _ hl=>?_,fun _=>⟨g,cap,upV_eq.trans hv,?_,ho.imp (fun h=>h) (fun h=>Nat.le_trans hy.size h),fun q hq e2=>?_⟩⟩
 ·rw [upB_eq] at hl; cases hl
 ·rw [upV_ne (by omega)]; rw [upB_ne (by omega)] at hl; exact h.ev j hj hl
 ·rw [upV_ne (by decide)]
  refine ⟨g14,c,e,h1.of (fun k hk=>?_),h2⟩
  cases hk
  rw [hg.block g14 hlt (fun e=>by have:=hrl g14 e.symm; omega),h16]
  exact (below_alloc y _).block g14 hlt |>.symm
 ·rw [upB_ne (by decide)] at hl
  rw [upV_ne (by decide),upV_ne (by decide)]; exact h.f24 hl
 ·rw [upB_eq] at hl; cases hl
 ·rw [upV_ne (by decide)]; exact hr
 ·rw [upV_ne (by decide),e] at hq
  cases hq
  subst e2
  rcases ho with h3 | h3
  ·have:=hrl g14 h3; omega
  ·exact absurd hlt (Nat.not_lt.2 h3)
end
structure RJ (W : World) (E : Nat→Value) (n : Nat) (xs ys : List Value) (l : Nat→Bool) (vs : Nat→Value) (w : World) : Prop where
 bl : Below W.heap.size W w
 ev : ∀ j,j≠4→j≠9→j≠10→l j=true→vs j=E j
 f4 : l 4=true→HRow w W.heap.size 46 4 (vs 4) n xs
 f9 : l 9=true→HRow w W.heap.size 3 1 (vs 9) n ys
 f10 : l 10=true→vs 10=.agg #[vs 4,.slice none 0 0,vs 9]
section
open Par
variable {W w w' : World} {E : Nat→Value} {n : Nat} {xs ys : List Value} {l : Nat→Bool} {vs : Nat→Value}
theorem RJ.v4 (h : RJ W E n xs ys l vs w) (h4 : l 4=true) : ∃ p c,vs 4=.slice p n c:=by
 obtain ⟨p,c,e,_⟩:=(h.f4 h4).isslice
 exact ⟨p,c,e⟩
theorem RJ.v9 (h : RJ W E n xs ys l vs w) (h4 : l 9=true) : ∃ p c,vs 9=.slice p n c:=by
 obtain ⟨p,c,e,_⟩:=(h.f9 h4).isslice
 exact ⟨p,c,e⟩
theorem RJ.up (h : RJ W E n xs ys l vs w) (i : Nat) (hi : i≠4∧i≠9∧i≠10) : RJ W E n xs ys (upB l i) (upV vs i (E i)) w:=by
 have e : ∀ j,j=4∨j=9∨j=10→upB l i j=l j∧upV vs i (E i) j=vs j:=fun j hj=>⟨upB_ne (by omega),upV_ne (by omega)⟩
 refine ⟨h.bl,fun j a b c hl=>?_,fun hl=>?_,fun hl=>?_,fun hl=>?_⟩
 ·by_cases e : j=i
  ·subst e; rw [upV_eq]
  ·rw [upV_ne e]; rw [upB_ne e] at hl; exact h.ev j a b c hl
 ·rw [(e 4 (by simp)).1] at hl
  rw [(e 4 (by simp)).2]; exact h.f4 hl
 ·rw [(e 9 (by simp)).1] at hl
  rw [(e 9 (by simp)).2]; exact h.f9 hl
 ·rw [(e 10 (by simp)).1] at hl
  rw [(e 10 (by simp)).2,(e 4 (by simp)).2,(e 9 (by simp)).2]; exact h.f10 hl
theorem RJ.s4 (h : RJ W E n xs ys l vs w) (h10 : l 10=false) {v : Value} (hr : HRow w' w.heap.size 46 4 v n xs) (hb : Below w.heap.size w w') : RJ W E n xs ys (upB l 4) (upV vs 4 v) w':=by
 refine ⟨below_on h.bl hb,fun j a b c hl=>?_,fun hl=>?_,fun hl=>?_,fun hl=>?_⟩
 ·rw [upV_ne a]; rw [upB_ne a] at hl; exact h.ev j a b c hl
 ·rw [upV_eq]; exact HRow.mono hr h.bl.size
 ·rw [upB_ne (by decide)] at hl
  rw [upV_ne (by decide)]; exact (h.f9 hl).later hb
 ·rw [upB_ne (by decide),h10] at hl; cases hl
theorem RJ.s9 (h : RJ W E n xs ys l vs w) (h10 : l 10=false) {v : Value} (hr : HRow w' w.heap.size 3 1 v n ys) (hb : Below w.heap.size w w') : RJ W E n xs ys (upB l 9) (upV vs 9 v) w':=by
 refine ⟨below_on h.bl hb,fun j a b c hl=>?_,fun hl=>?_,fun hl=>?_,fun hl=>?_⟩
 ·rw [upV_ne b]; rw [upB_ne b] at hl; exact h.ev j a b c hl
 ·rw [upB_ne (by decide)] at hl
  rw [upV_ne (by decide)]; exact (h.f4 hl).later hb
 ·rw [upV_eq]; exact HRow.mono hr h.bl.size
 ·rw [upB_ne (by decide),h10] at hl; cases hl
theorem RJ.s10 (h : RJ W E n xs ys l vs w) : RJ W E n xs ys (upB l 10) (upV vs 10 (.agg #[vs 4,.slice none 0 0,vs 9])) w:=by
 refine ⟨h.bl,fun j a b c hl=>?_,fun hl=>?_,fun hl=>?_,fun hl=>?_⟩
 ·rw [upV_ne c]; rw [upB_ne c] at hl; exact h.ev j a b c hl
 ·rw [upB_ne (by decide)] at hl
  rw [upV_ne (by decide)]; exact h.f4 hl
 ·rw [upB_ne (by decide)] at hl
  rw [upV_ne (by decide)]; exact h.f9 hl
 ·rw [upV_eq,upV_ne (by decide),upV_ne (by decide)]
end
end Go.Proofs.YtjepplacnaoomaaGreat
