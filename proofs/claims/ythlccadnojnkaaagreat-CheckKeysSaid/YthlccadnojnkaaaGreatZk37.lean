import Derived.Test.YthlccadnojnkaaaGreatZk36
import Derived.Test.YthlccadnojnkaaaGreatZk31
set_option maxHeartbeats 8000000
set_option maxRecDepth 100000
namespace Go.Proofs.YthlccadnojnkaaaGreat
open Go Go.RowKit Go.Proofs Co Co.S
theorem xU {W:World} {d:Nat} {ts:List T} {st:List DT} {O:Nat->Nat} (h:Dd W d ts st O) (hi:InvQ ts) (hfew:AllFew ts) (hsz:Short ts) {v:Value} (x:ByteArray) {id:Int} {p:List ByteArray} (hid:F64 id) (hp:Wd W v p) :
  Calls Tryz.prog 99 #[.pointer (some ⟨d,0,none⟩),.string x,.int .i64 id,v] W fun e w'=>e=.returned (.tuple #[(Value.agg #[Value.int .i64 ((valueP ts (rowsOf st) x id p).1.1),Value.int .i64 ((valueP ts (rowsOf st) x id p).1.2.1),Value.string ((valueP ts (rowsOf st) x id p).1.2.2)]),.bool (valueP ts (rowsOf st) x id p).2])/\Below W.heap.size W w':=by
 by_cases hok:(pcolL ts x p).2.2=0
 ·exact xT h hi hfew hsz hid hp hok
 have e:valueP ts (rowsOf st) x id p=(z3,false):=by
  unfold valueP;rw[if_neg (fun h=>hok h.1)]
 rw[e];obtain⟨mv,hsp⟩:=h.sp;exact aBG (fun w hw=>bF (h.later hw).dlt) hsp hp hok
section
variable {W w:World} {b:Nat} {ts:List T} {tt:List RT} {i:NI} {O:Nat->Nat} {t:T} {cv dv:Value}
end
theorem uC (fs:List (Value×Value)) (ts:List T) (f:Value×Value) (t:T) (h:fs.length=ts.length):cellsF (fs++[f]) (ts++[t])=cellsF fs ts++[.string t.nm,f.1,.string t.key,f.2]:=by
 unfold cellsF;rw[List.zip_append h,List.flatMap_append]
 simp
def rt0:RT:=⟨.slice none 0 0,0,[],[]⟩
theorem RTok.nil {W:World} {t:T} {O:Nat->Nat} {j:Nat}:RTok W t rt0 O j :=
 ⟨HRow.nil,rfl,fun _ h=>absurd h (Nat.not_lt_zero _),fun _ _ h=>absurd h (Nat.not_lt_zero _),fun _ h=>(by cases h),List.Pairwise.nil,fun _ h=>(by cases h),fun _ h=>(by cases h),fun _ h=>absurd h (Nat.not_lt_zero _)⟩
def ownO (W:World) (O:Nat->Nat) (sv ov nv:Value) (q:Nat):Nat :=
 if q<W.heap.size then O q else if sv.ownBlock=some q then 2 else if ov.ownBlock=some q then 3 else if nv.ownBlock=some q then 4 else 0
section
variable {W W':World} {b:Nat} {ts:List T} {tt:List RT} {i:NI} {O:Nat->Nat} {t:T} {sv ov nv c d:Value}
theorem DbN.addtab (h:DbN W b ts tt i O) (hbox:W'.heap[b]?=some (.cells #[sv,ov,nv] 71)) (hk:Tn (fun q=>O q≠0/\O q<=4) W W')
  (hform:HRow W' 0 77 4 sv (ts.length+1) (cellsF i.fs ts++[.string t.nm,c,.string t.key,d])) (hrd:RdT W' c d t)
  (hout:HRow W' 0 92 1 ov (ts.length+1) (tt.map (·.rv)++[.slice none 0 0])) (hnx:HRow W' 0 3 1 nv (ts.length+1) (tt.map (fun x=>Value.int .i64 (x.nx:Int))++[.int .i64 0]))
  (h2:∀ q,sv.ownBlock=some q->i.sv.ownBlock=some q∨W.heap.size<=q) (h3:∀ q,ov.ownBlock=some q->i.ov.ownBlock=some q∨W.heap.size<=q) (h4:∀ q,nv.ownBlock=some q->i.nv.ownBlock=some q∨W.heap.size<=q) :
  DbN W' b (ts++[t]) (tt++[rt0]) ⟨sv,ov,nv,i.fs++[(c,d)]⟩ (ownO W O sv ov nv)/\Ext W O (ownO W O sv ov nv):=by
 have hold:∀ q,q<W.heap.size->ownO W O sv ov nv q=O q:=(fun q hq=>by unfold ownO;rw[if_pos hq]);have hbl:=aC h.box;have hl1:(ts++[t]).length=ts.length+1:=by simp
 have d23:∀ q,sv.ownBlock=some q->ov.ownBlock=some q->False:=fun q e1 e2=>by
  obtain⟨_,_,a1⟩:=hform.block q e1;obtain⟨_,_,a2⟩:=hout.block q e2;rw[a1] at a2;cases a2
 have d24:∀ q,sv.ownBlock=some q->nv.ownBlock=some q->False:=fun q e1 e2=>by
  obtain⟨_,_,a1⟩:=hform.block q e1;obtain⟨_,_,a2⟩:=hnx.block q e2;rw[a1] at a2;cases a2
 have d34:∀ q,ov.ownBlock=some q->nv.ownBlock=some q->False:=fun q e1 e2=>by
  obtain⟨_,_,a1⟩:=hout.block q e1;obtain⟨_,_,a2⟩:=hnx.block q e2;rw[a1] at a2;cases a2
 refine⟨⟨hbox,?_,?_,?_,fun j a e=>?_,?_,?_,fun j a e=>?_,(hold b hbl).trans h.o1,fun q hq=>?_,fun q hq=>?_,fun q hq=>?_,fun q hq=>?_⟩,fun q hq=>hold q hq⟩
 ·rw[List.length_append,List.length_append,h.n];rfl
 ·rw[List.length_append,List.length_append,h.fn];rfl
 ·rw[hl1,uC _ _ _ _ h.fn];exact hform
 ·by_cases hj:j<ts.length
  ·have hj2:j<i.fs.length:=(by rw[h.fn];exact hj);have e1:(i.fs++[(c,d)])[j]=i.fs[j]:=List.getElem_append_left hj2;have e2:(ts++[t])[j]=ts[j]:=List.getElem_append_left hj;show RdT W' (i.fs++[(c,d)])[j].1 (i.fs++[(c,d)])[j].2 (ts++[t])[j];rw[e1,e2];exact (h.rd j hj hj2).kp hk.kpX
  obtain rfl:j=ts.length:=by omega
  have e1:(i.fs++[(c,d)])[ts.length]'e=(c,d):=by
   rw[List.getElem_append_right (by rw[h.fn];exact Nat.le_refl _)];simp
  have e2:(ts++[t])[ts.length]'a=t:=by
   rw[List.getElem_append_right (Nat.le_refl _)];simp
  show RdT W' (i.fs++[(c,d)])[ts.length].1 (i.fs++[(c,d)])[ts.length].2 (ts++[t])[ts.length];rw[e1,e2];exact hrd
 ·rw[hl1,List.map_append];exact hout
 ·rw[hl1,List.map_append];exact hnx
 ·by_cases hj:j<ts.length
  ·have hj2:j<tt.length:=(by rw[h.n];exact hj);have e1:(tt++[rt0])[j]=tt[j]:=List.getElem_append_left hj2;have e2:(ts++[t])[j]=ts[j]:=List.getElem_append_left hj;rw[e1,e2];exact (h.tab j hj hj2).tn hk (fun q hq=>by omega) hold
  obtain rfl:j=ts.length:=by omega
  have e1:(tt++[rt0])[ts.length]'e=rt0:=by
   rw[List.getElem_append_right (by rw[h.n];exact Nat.le_refl _)];simp[h.n]
  rw[e1];exact RTok.nil
 ·rcases h2 q hq with e|e
  ·exact (hold q (HRow.lt h.form q e).2).trans (h.o2 q e)
  unfold ownO;rw[if_neg (Nat.not_lt.2 e),if_pos hq]
 ·rcases h3 q hq with e|e
  ·exact (hold q (HRow.lt h.outer q e).2).trans (h.o3 q e)
  unfold ownO;rw[if_neg (Nat.not_lt.2 e),if_neg (fun e2=>d23 q e2 hq),if_pos hq]
 ·rcases h4 q hq with e|e
  ·exact (hold q (HRow.lt h.nxs q e).2).trans (h.o4 q e)
  unfold ownO;rw[if_neg (Nat.not_lt.2 e),if_neg (fun e2=>d24 q e2 hq),if_neg (fun e2=>d34 q e2 hq),if_pos hq]
 by_cases hl:q<W.heap.size
 ·exact Nat.lt_of_lt_of_le hl hk.size
 unfold ownO at hq;rw[if_neg hl] at hq;by_cases e1:sv.ownBlock=some q
 ·exact (HRow.lt hform q e1).2
 rw[if_neg e1] at hq;by_cases e2:ov.ownBlock=some q
 ·exact (HRow.lt hout q e2).2
 rw[if_neg e2] at hq;by_cases e3:nv.ownBlock=some q
 ·exact (HRow.lt hnx q e3).2
 rw[if_neg e3] at hq;exact absurd rfl hq
end
theorem aAg:(Tryz.prog.info? 77).map (fun i=>(i.zero,i.size,i.bytes))=some (some (.agg #[.string e0,.slice none 0 0,.string e0,.slice none 0 0]),4,80):=by kernel_rfl
theorem aAh:(Tryz.prog.info? 92).map (fun i=>(i.zero,i.size,i.bytes))=some (some (.slice none 0 0),1,24):=by kernel_rfl
theorem aDz:(Tryz.prog.info? 3).map (fun i=>(i.zero,i.size,i.bytes))=some (some (.int .i64 0),1,8):=by kernel_rfl
theorem rJ {t ty e:TypeId} {z:Value} {size bytes:Nat} (ht:Tryz.prog.underlying t=some (.slice e)) (hinf:(Tryz.prog.info? e).map (fun i=>(i.zero,i.size,i.bytes))=some (some z,size,bytes)) (hzs:z.cells.size=size) (hsz:0<size) (hby:bytes<=80)
  (w:World) (base:Nat) {v:Value} {m:Nat} {xs:List Value} (hr:HRow w base e size v m xs) (hm:m+1<=1000000) (hb:base<=w.heap.size) (g0:Nat) (cs:Array Value) (hh:w.heap[g0]?=some (.cells cs e)) (hcs:cs.size=size) (h1:∀ u∈cs.toList,u.oneCell'=true) :
  ∃ g cap w',(Builtin.append_ #[t,t] ty #[v,.slice (some ⟨g0,0,none⟩) 1 1]).run Tryz.prog w=.ok (.slice (some ⟨g,0,none⟩) (m+1) cap) w' /\
   HRow w' base e size (.slice (some ⟨g,0,none⟩) (m+1) cap) (m+1) (xs++cs.toList)/\w.grownBy w' v.ownBlock/\(v.ownBlock=some g∨w.heap.size<=g):=by
 obtain⟨i0,hi0,hz0,hz1,hz2⟩:=info_parts hinf
 have hmul:(m+1)*bytes<=140737488355328:=by
  have:(m+1)*bytes<=1000000*80:=Nat.mul_le_mul hm hby
  omega
 obtain⟨g,cap,w',h1',h2,h3,h4⟩:=aY (P:=Tryz.prog) w base t ty e i0 z size bytes ht hi0 hz0 hz1 hz2 hzs hsz hr ⟨g0,0,none⟩ 1 1 cs.toList (by simpa using hcs)
  (by exact World.news_of_block hh) h1 (by decide) (by unfold maxLen;omega) hmul hb
 exact⟨g,cap,w',h1',h2,h3,h4⟩
theorem HRow.by_other {w w':World} {base size n:Nat} {e:TypeId} {v:Value} {xs:List Value} (h:HRow w base e size v n xs) {o:Option Nat} (hg:w.grownBy w' o) (ho:∀ k cur,o=some k->w.heap[k]?≠some (.cells cur e)):HRow w' base e size v n xs :=
 h.of (fun k hk=>by
  obtain⟨_,cur,e1⟩:=h.block k hk;exact hg.block k (aC e1) (fun e2=>ho k cur e2.symm e1))
structure FJ (W0:World) (E:Nat->Value) (rv:Value) (n:Nat) (xs:List Value) (nm key:ByteArray) (nc:Nat) (dv:Value) (t:T) (l:Nat->Bool) (vs:Nat->Value) (w:World):Prop where
 gb:W0.grownBy w rv.ownBlock
 f0:l 8=false->Below W0.heap.size W0 w
 ev:∀ j,j<6∨j=9∨j=10->l j=true->vs j=E j
 f6:l 6=true->l 8=false->∃ p1 c1,vs 6=.agg #[.string nm,.slice p1 nc c1,.string key,dv]/\RdT w (.slice p1 nc c1) dv t
 f7:l 7=true->l 8=false->∃ p1 c1 g0,vs 6=.agg #[.string nm,.slice p1 nc c1,.string key,dv]/\RdT w (.slice p1 nc c1) dv t/\vs 7=.slice (some ⟨g0,0,none⟩) 1 1/\w.heap[g0]?=some (.cells #[.string nm,.slice p1 nc c1,.string key,dv] 77)
 f8:l 8=true->∃ g cap p1 c1,vs 8=.slice (some ⟨g,0,none⟩) (n+1) cap/\HRow w 0 77 4 (.slice (some ⟨g,0,none⟩) (n+1) cap) (n+1) (xs++[.string nm,.slice p1 nc c1,.string key,dv])/\(rv.ownBlock=some g∨W0.heap.size<=g)/\RdT w (.slice p1 nc c1) dv t
section
open Par
variable {W0 w w':World} {E:Nat->Value} {rv:Value} {n:Nat} {xs:List Value} {nm key:ByteArray} {nc:Nat} {dv:Value} {t:T} {l:Nat->Bool} {vs:Nat->Value}
theorem FJ.up (h:FJ W0 E rv n xs nm key nc dv t l vs w) (i:Nat) (hi:i<6∨i=9∨i=10):FJ W0 E rv n xs nm key nc dv t (upB l i) (upV vs i (E i)) w:=by
 have k:∀ j,j=6∨j=7∨j=8->upB l i j=l j/\upV vs i (E i) j=vs j:=(fun j hj=>⟨aI (by omega),aJ (by omega)⟩);obtain⟨a6,b6⟩:=k 6 (by simp);obtain⟨a7,b7⟩:=k 7 (by simp);obtain⟨a8,b8⟩:=k 8 (by simp);refine⟨h.gb,fun hl=>h.f0 (a8▸hl),fun j hj hl=>?_,fun h1 h2=>?_,fun h1 h2=>?_,fun hl=>?_⟩
 ·by_cases e:j=i
  ·subst e;rw[aS]
  rw[aJ e];rw[aI e] at hl;exact h.ev j hj hl
 ·rw[a6] at h1;rw[a8] at h2;rw[b6];exact h.f6 h1 h2
 ·rw[a7] at h1;rw[a8] at h2;rw[b6,b7];exact h.f7 h1 h2
 rw[a8] at hl;rw[b8];exact h.f8 hl
theorem FJ.s6 (h:FJ W0 E rv n xs nm key nc dv t l vs w) (h7:l 7=false) (h8:l 8=false) {p1:Option Addr} {c1:Nat} (hr:RdT w' (.slice p1 nc c1) dv t) (hb:Below w.heap.size w w') :
  FJ W0 E rv n xs nm key nc dv t (upB l 6) (upV vs 6 (.agg #[.string nm,.slice p1 nc c1,.string key,dv])) w':=by
 have hb2:=aB (h.f0 h8) hb;refine⟨cZ hb2,fun _=>hb2,fun j hj hl=>?_,fun _ _=>⟨p1,c1,aS,hr⟩,fun hl _=>?_,fun hl=>?_⟩
 ·rw[aJ (by omega)];rw[aI (by omega)] at hl;exact h.ev j hj hl
 ·rw[aI (by decide),h7] at hl;cases hl
 rw[aI (by decide),h8] at hl;cases hl
theorem FJ.s7 (h:FJ W0 E rv n xs nm key nc dv t l vs w) (h8:l 8=false) {p1:Option Addr} {c1:Nat} (e6:vs 6=.agg #[.string nm,.slice p1 nc c1,.string key,dv]) (hr:RdT w (.slice p1 nc c1) dv t) :
  FJ W0 E rv n xs nm key nc dv t (upB l 7) (upV vs 7 (.slice (some ⟨w.heap.size,0,none⟩) 1 1)) (w.alloc (.cells #[.string nm,.slice p1 nc c1,.string key,dv] 77)):=by
 have hbA:=aD w (.cells #[.string nm,.slice p1 nc c1,.string key,dv] 77);have hb2:=aB (h.f0 h8) hbA;have hr2:=hr.kp (Tn.of_below (S:=fun _=>False) hbA).kpX;refine⟨cZ hb2,fun _=>hb2,fun j hj hl=>?_,fun _ _=>⟨p1,c1,by rw[aJ (by decide)];exact e6,hr2⟩,fun _ _=>⟨p1,c1,_,by rw[aJ (by decide)];exact e6,hr2,aS,heap_alloc_new w _⟩,fun hl=>?_⟩
 ·rw[aJ (by omega)];rw[aI (by omega)] at hl;exact h.ev j hj hl
 rw[aI (by decide),h8] at hl;cases hl
theorem aAi {o:Option Nat} (hg:w.grownBy w' o) (ho:∀ q,o=some q->∃ cur,w.heap[q]?=some (.cells cur 77)):Tn (fun q=>o=some q) w w' :=
 Tn.of_chg ⟨hg.os,hg.tape,hg.output,hg.size,fun q hq hn=>hg.block q hq (fun e=>hn e.symm)⟩ (fun q _ hq=>by
  obtain⟨cur,e⟩:=ho q hq;exact .inl ⟨cur,77,e,rfl⟩)
theorem FJ.s8 (h:FJ W0 E rv n xs nm key nc dv t l vs w) (h8:l 8=false) {p1:Option Addr} {c1:Nat} (hr:RdT w (.slice p1 nc c1) dv t) (hW:HRow W0 0 77 4 rv n xs) {g cap:Nat} {v:Value}
  (hv:v=.slice (some ⟨g,0,none⟩) (n+1) cap) (hr2:HRow w' 0 77 4 (.slice (some ⟨g,0,none⟩) (n+1) cap) (n+1) (xs++[.string nm,.slice p1 nc c1,.string key,dv])) (hg:w.grownBy w' rv.ownBlock) (ho:rv.ownBlock=some g∨w.heap.size<=g) :
  FJ W0 E rv n xs nm key nc dv t (upB l 8) (upV vs 8 v) w':=by
 have hb:=h.f0 h8;have hgb:W0.grownBy w' rv.ownBlock:=⟨hg.os.trans hb.os,hg.tape.trans hb.tape,hg.output.trans hb.output,Nat.le_trans hb.size hg.size,fun q hq hn=>(hg.block q (Nat.lt_of_lt_of_le hq hb.size) hn).trans (hb.block q hq)⟩
 have htn:=aAi hg (fun q hq=>by
  obtain⟨_,cur,e⟩:=(hW.later hb).block q hq;exact⟨cur,e⟩)
 refine⟨hgb,fun hl=>?_,fun j hj hl=>?_,fun _ hl=>?_,fun _ hl=>?_,fun _=>⟨g,cap,p1,c1,aS.trans hv,hr2,ho.imp (fun h=>h) (fun h=>Nat.le_trans hb.size h),hr.kp htn.kpX⟩⟩
 ·rw[bW] at hl;cases hl
 ·rw[aJ (by omega)];rw[aI (by omega)] at hl;exact h.ev j hj hl
 ·rw[bW] at hl;cases hl
 rw[bW] at hl;cases hl
end
structure AJ (W0:World) (E:Nat->Value) (b:Nat) (sv ov nv:Value) (n:Nat) (xs ys:List Value) (l:Nat->Bool) (vs:Nat->Value) (w:World):Prop where
 tn:Tn (fun q=>q=b∨ov.ownBlock=some q∨nv.ownBlock=some q) W0 w
 ev:∀ j,j<17->j≠6->j≠7->j≠12->j≠13->j≠16->l j=true->vs j=E j
 box:w.heap[b]?=some (.cells #[sv,(if l 16=true then vs 7 else ov),nv] 71)
 r7:l 7=false->HRow w 0 92 1 ov n xs
 r13:l 13=false->HRow w 0 3 1 nv n ys
 f6:l 6=true->l 7=false->∃ g0,vs 6=.slice (some ⟨g0,0,none⟩) 1 1/\w.heap[g0]?=some (.cells #[.slice none 0 0] 92)/\W0.heap.size<=g0
 f12:l 12=true->l 13=false->∃ g0,vs 12=.slice (some ⟨g0,0,none⟩) 1 1/\w.heap[g0]?=some (.cells #[.int .i64 0] 3)/\W0.heap.size<=g0
 f7:l 7=true->∃ g cap,vs 7=.slice (some ⟨g,0,none⟩) (n+1) cap/\HRow w 0 92 1 (.slice (some ⟨g,0,none⟩) (n+1) cap) (n+1) (xs++[.slice none 0 0])/\(ov.ownBlock=some g∨W0.heap.size<=g)
 f13:l 13=true->∃ g cap,vs 13=.slice (some ⟨g,0,none⟩) (n+1) cap/\HRow w 0 3 1 (.slice (some ⟨g,0,none⟩) (n+1) cap) (n+1) (ys++[.int .i64 0])/\(nv.ownBlock=some g∨W0.heap.size<=g)
section
open Par
variable {W0 w w':World} {E:Nat->Value} {b:Nat} {sv ov nv:Value} {n:Nat} {xs ys:List Value} {l:Nat->Bool} {vs:Nat->Value}
theorem AJ.up (h:AJ W0 E b sv ov nv n xs ys l vs w) (i:Nat) (hi:i<17/\i≠6/\i≠7/\i≠12/\i≠13/\i≠16):AJ W0 E b sv ov nv n xs ys (upB l i) (upV vs i (E i)) w:=by
 have k:∀ j,j=6∨j=7∨j=12∨j=13∨j=16->upB l i j=l j/\upV vs i (E i) j=vs j:=(fun j hj=>⟨aI (by omega),aJ (by omega)⟩);obtain⟨a6,b6⟩:=k 6 (by simp);obtain⟨a7,b7⟩:=k 7 (by simp);obtain⟨a12,b12⟩:=k 12 (by simp);obtain⟨a13,b13⟩:=k 13 (by simp);obtain⟨a16,b16⟩:=k 16 (by simp);refine⟨h.tn,fun j hj j1 j2 j3 j4 j5 hl=>?_,by rw[a16,b7];exact h.box,by rw[a7];exact h.r7,by rw[a13];exact h.r13,by rw[a6,a7,b6];exact h.f6,by rw[a12,a13,b12];exact h.f12,by rw[a7,b7];exact h.f7,by rw[a13,b13];exact h.f13⟩;by_cases e:j=i
 ·subst e;rw[aS]
 rw[aJ e];rw[aI e] at hl;exact h.ev j hj j1 j2 j3 j4 j5 hl
theorem AJ.s6 (h:AJ W0 E b sv ov nv n xs ys l vs w) (h7:l 7=false):AJ W0 E b sv ov nv n xs ys (upB l 6) (upV vs 6 (.slice (some ⟨w.heap.size,0,none⟩) 1 1)) (w.alloc (.cells #[.slice none 0 0] 92)):=by
 have hbA:=aD w (.cells #[.slice none 0 0] 92);have u:∀ j,j≠6->upB l 6 j=l j/\upV vs 6 (.slice (some ⟨w.heap.size,0,none⟩) 1 1) j=vs j:=(fun j hj=>⟨aI hj,aJ hj⟩);refine⟨h.tn.trans (Tn.of_below (S:=fun _=>False) hbA) (fun _ _ h=>h) (fun _ _ h=>h.elim),fun j hj j1 j2 j3 j4 j5 hl=>?_,?_,fun hl=>?_,fun hl=>?_,fun _ _=>⟨_,aS,heap_alloc_new w _,h.tn.size⟩,fun h1 h2=>?_,fun hl=>?_,fun hl=>?_⟩
 ·rw[(u j j1).2];rw[(u j j1).1] at hl;exact h.ev j hj j1 j2 j3 j4 j5 hl
 ·rw[(u 16 (by decide)).1,(u 7 (by decide)).2];exact aE hbA h.box
 ·rw[(u 7 (by decide)).1] at hl;exact (h.r7 hl).later hbA
 ·rw[(u 13 (by decide)).1] at hl;exact (h.r13 hl).later hbA
 ·rw[(u 12 (by decide)).1] at h1;rw[(u 13 (by decide)).1] at h2;rw[(u 12 (by decide)).2]
  obtain⟨g0,q1,q2,q3⟩:=h.f12 h1 h2;exact⟨g0,q1,aE hbA q2,q3⟩
 ·rw[(u 7 (by decide)).1,h7] at hl;cases hl
 rw[(u 13 (by decide)).1] at hl;rw[(u 13 (by decide)).2]
 obtain⟨g,cap,q1,q2,q3⟩:=h.f13 hl;exact⟨g,cap,q1,q2.later hbA,q3⟩
theorem AJ.s12 (h:AJ W0 E b sv ov nv n xs ys l vs w) (h13:l 13=false):AJ W0 E b sv ov nv n xs ys (upB l 12) (upV vs 12 (.slice (some ⟨w.heap.size,0,none⟩) 1 1)) (w.alloc (.cells #[.int .i64 0] 3)):=by
 have hbA:=aD w (.cells #[.int .i64 0] 3);have u:∀ j,j≠12->upB l 12 j=l j/\upV vs 12 (.slice (some ⟨w.heap.size,0,none⟩) 1 1) j=vs j:=(fun j hj=>⟨aI hj,aJ hj⟩);refine⟨h.tn.trans (Tn.of_below (S:=fun _=>False) hbA) (fun _ _ h=>h) (fun _ _ h=>h.elim),fun j hj j1 j2 j3 j4 j5 hl=>?_,?_,fun hl=>?_,fun hl=>?_,fun h1 h2=>?_,fun _ _=>⟨_,aS,heap_alloc_new w _,h.tn.size⟩,fun hl=>?_,fun hl=>?_⟩
 ·rw[(u j j3).2];rw[(u j j3).1] at hl;exact h.ev j hj j1 j2 j3 j4 j5 hl
 ·rw[(u 16 (by decide)).1,(u 7 (by decide)).2];exact aE hbA h.box
 ·rw[(u 7 (by decide)).1] at hl;exact (h.r7 hl).later hbA
 ·rw[(u 13 (by decide)).1] at hl;exact (h.r13 hl).later hbA
 ·rw[(u 6 (by decide)).1] at h1;rw[(u 7 (by decide)).1] at h2;rw[(u 6 (by decide)).2]
  obtain⟨g0,q1,q2,q3⟩:=h.f6 h1 h2;exact⟨g0,q1,aE hbA q2,q3⟩
 ·rw[(u 7 (by decide)).1] at hl;rw[(u 7 (by decide)).2]
  obtain⟨g,cap,q1,q2,q3⟩:=h.f7 hl;exact⟨g,cap,q1,q2.later hbA,q3⟩
 rw[(u 13 (by decide)).1,h13] at hl;cases hl
theorem aDA {base size m:Nat} {e:TypeId} {v:Value} {zs:List Value} (hr:HRow w base e size v m zs) (he:mtT e=true) (hg:w.grownBy w' v.ownBlock):Tn (fun q=>v.ownBlock=some q) w w' :=
 Tn.of_chg ⟨hg.os,hg.tape,hg.output,hg.size,fun q hq hn=>hg.block q hq (fun e2=>hn e2.symm)⟩ (fun q _ hq=>by
  obtain⟨_,cur,e2⟩:=hr.block q hq;exact .inl ⟨cur,e,e2,he⟩)
theorem AJ.s7 (h:AJ W0 E b sv ov nv n xs ys l vs w) (h7:l 7=false) (h13:l 13=false) (h16:l 16=false) {v:Value} {g cap:Nat} (hv:v=.slice (some ⟨g,0,none⟩) (n+1) cap)
  (hr:HRow w' 0 92 1 (.slice (some ⟨g,0,none⟩) (n+1) cap) (n+1) (xs++[.slice none 0 0])) (hg:w.grownBy w' ov.ownBlock) (ho:ov.ownBlock=some g∨w.heap.size<=g):AJ W0 E b sv ov nv n xs ys (upB l 7) (upV vs 7 v) w':=by
 have hro:=h.r7 h7;have htn:=aDA hro rfl hg
 have no:∀ (q:Nat) (cur:Array Value) (e:TypeId),e≠92->w.heap[q]?=some (Obj.cells cur e)->w'.heap[q]?=some (Obj.cells cur e):=fun q cur e he hq=>by
  rw[hg.block q (aC hq) (fun e2=>?_)]
  ·exact hq
  obtain⟨_,c2,q2⟩:=hro.block q e2.symm;rw[hq] at q2;cases q2;exact he rfl
 have u:∀ j,j≠7->upB l 7 j=l j/\upV vs 7 v j=vs j:=(fun j hj=>⟨aI hj,aJ hj⟩);refine⟨h.tn.trans htn (fun _ _ h=>h) (fun _ _ h=>.inr (.inl h)),fun j hj j1 j2 j3 j4 j5 hl=>?_,?_,fun hl=>?_,fun hl=>?_,fun _ h2=>?_,fun h1 h2=>?_,fun _=>⟨g,cap,aS.trans hv,hr,ho.imp (fun h=>h) (fun h2=>Nat.le_trans h.tn.size h2)⟩,fun hl=>?_⟩
 ·rw[(u j j2).2];rw[(u j j2).1] at hl;exact h.ev j hj j1 j2 j3 j4 j5 hl
 ·rw[(u 16 (by decide)).1,h16];have hb:=h.box;rw[h16] at hb;exact no b _ 71 (by decide) hb
 ·rw[bW] at hl;cases hl
 ·rw[(u 13 (by decide)).1] at hl
  exact (h.r13 hl).by_other hg (fun k cur e1 e2=>by
   obtain⟨_,c2,q2⟩:=hro.block k e1;rw[e2] at q2;cases q2)
 ·rw[bW] at h2;cases h2
 ·rw[(u 12 (by decide)).1] at h1;rw[(u 13 (by decide)).1] at h2;rw[(u 12 (by decide)).2]
  obtain⟨g0,q1,q2,q3⟩:=h.f12 h1 h2;exact⟨g0,q1,no g0 _ 3 (by decide) q2,q3⟩
 rw[(u 13 (by decide)).1,h13] at hl;cases hl
theorem AJ.s13 (h:AJ W0 E b sv ov nv n xs ys l vs w) (h7:l 7=true) (h13:l 13=false) (h16:l 16=false) {v:Value} {g cap:Nat} (hv:v=.slice (some ⟨g,0,none⟩) (n+1) cap)
  (hr:HRow w' 0 3 1 (.slice (some ⟨g,0,none⟩) (n+1) cap) (n+1) (ys++[.int .i64 0])) (hg:w.grownBy w' nv.ownBlock) (ho:nv.ownBlock=some g∨w.heap.size<=g):AJ W0 E b sv ov nv n xs ys (upB l 13) (upV vs 13 v) w':=by
 have hro:=h.r13 h13;have htn:=aDA hro rfl hg;have u:∀ j,j≠13->upB l 13 j=l j/\upV vs 13 v j=vs j:=(fun j hj=>⟨aI hj,aJ hj⟩);refine⟨h.tn.trans htn (fun _ _ h=>h) (fun _ _ h=>.inr (.inr h)),fun j hj j1 j2 j3 j4 j5 hl=>?_,?_,fun hl=>?_,fun hl=>?_,fun _ h2=>?_,fun _ h2=>?_,fun hl=>?_,fun _=>⟨g,cap,aS.trans hv,hr,ho.imp (fun h=>h) (fun h2=>Nat.le_trans h.tn.size h2)⟩⟩
 ·rw[(u j j4).2];rw[(u j j4).1] at hl;exact h.ev j hj j1 j2 j3 j4 j5 hl
 ·rw[(u 16 (by decide)).1,h16];have hb:=h.box;rw[h16] at hb;rw[hg.block b (aC hb) (fun e2=>?_)]
  ·exact hb
  obtain⟨_,c2,q2⟩:=hro.block b e2.symm;rw[hb] at q2;cases q2
 ·rw[(u 7 (by decide)).1,h7] at hl;cases hl
 ·rw[bW] at hl;cases hl
 ·rw[(u 7 (by decide)).1,h7] at h2;cases h2
 ·rw[bW] at h2;cases h2
 rw[(u 7 (by decide)).2];obtain⟨g7,c7,q1,q2,q3⟩:=h.f7 h7
 exact⟨g7,c7,q1,q2.by_other hg (fun k cur e1 e2=>by
  obtain⟨_,c2,q2⟩:=hro.block k e1;rw[e2] at q2;cases q2),q3⟩
theorem AJ.s16 (h:AJ W0 E b sv ov nv n xs ys l vs w) (h7:l 7=true) (h13:l 13=true) (h16:l 16=false) (v:Value):AJ W0 E b sv ov nv n xs ys (upB l 16) (upV vs 16 v) (w.setCell ⟨b,1,none⟩ (vs 7)):=by
 have hb:=h.box;rw[h16] at hb;have hbox:=heap_setCell_same w b 1 _ 71 (vs 7) hb;have oth:∀ q,q≠b->(w.setCell ⟨b,1,none⟩ (vs 7)).heap[q]?=w.heap[q]?:=(fun q hq=>heap_setCell_other w ⟨b,1,none⟩ q (vs 7) hq);have htn:Tn (fun q=>q=b) w (w.setCell ⟨b,1,none⟩ (vs 7)):=Tn.of_chg ⟨rfl,rfl,rfl,Nat.le_of_eq (by simp),fun q _ hn=>oth q hn⟩ (fun q _ hq=>by have hq:q=b:=hq;subst hq;exact .inl ⟨_,71,hb,rfl⟩)
 have nb:∀ {base size m:Nat} {e:TypeId} {v:Value} {zs:List Value},HRow w base e size v m zs->e≠71->HRow (w.setCell ⟨b,1,none⟩ (vs 7)) base e size v m zs:=fun hr he=>hr.of (fun k hk=>oth k (fun e2=>by
  obtain⟨_,c2,q2⟩:=hr.block k hk;rw[e2,hb] at q2;cases q2;exact he rfl))
 have u:∀ j,j≠16->upB l 16 j=l j/\upV vs 16 v j=vs j:=(fun j hj=>⟨aI hj,aJ hj⟩);refine⟨h.tn.trans htn (fun _ _ h=>h) (fun _ _ h=>.inl h),fun j hj j1 j2 j3 j4 j5 hl=>?_,?_,fun hl=>?_,fun hl=>?_,fun _ h2=>?_,fun _ h2=>?_,fun hl=>?_,fun hl=>?_⟩
 ·rw[(u j j5).2];rw[(u j j5).1] at hl;exact h.ev j hj j1 j2 j3 j4 j5 hl
 ·rw[bW,if_pos rfl,(u 7 (by decide)).2,hbox];rfl
 ·rw[(u 7 (by decide)).1,h7] at hl;cases hl
 ·rw[(u 13 (by decide)).1,h13] at hl;cases hl
 ·rw[(u 7 (by decide)).1,h7] at h2;cases h2
 ·rw[(u 13 (by decide)).1,h13] at h2;cases h2
 ·rw[(u 7 (by decide)).2];obtain⟨g7,c7,q1,q2,q3⟩:=h.f7 h7;exact⟨g7,c7,q1,nb q2 (by decide),q3⟩
 rw[(u 13 (by decide)).2];obtain⟨g7,c7,q1,q2,q3⟩:=h.f13 h13;exact⟨g7,c7,q1,nb q2 (by decide),q3⟩
end
theorem aAj {w:World} {b k:Nat} {cs:Array Value} {v:Value} (hb:w.heap[b]?=some (.cells cs 71)) :
  Tn (fun q=>q=b) w (w.setCell ⟨b,k,none⟩ v)/\(∀ {base size m:Nat} {e:TypeId} {u:Value} {zs:List Value},HRow w base e size u m zs->e≠71->HRow (w.setCell ⟨b,k,none⟩ v) base e size u m zs):=by
 have oth:∀ q,q≠b->(w.setCell ⟨b,k,none⟩ v).heap[q]?=w.heap[q]?:=fun q hq=>heap_setCell_other w ⟨b,k,none⟩ q v hq
 refine⟨Tn.of_chg ⟨rfl,rfl,rfl,Nat.le_of_eq (by simp),fun q _ hn=>oth q hn⟩ (fun q _ hq=>by have hq:q=b:=hq;subst hq;exact .inl ⟨_,71,hb,rfl⟩),fun hr he=>hr.of (fun k hk=>oth k (fun e2=>by
  obtain⟨_,c2,q2⟩:=hr.block k hk;rw[e2,hb] at q2;cases q2;exact he rfl))⟩
section
variable {W w:World} {b:Nat} {ts:List T} {tt:List RT} {i:NI} {O:Nat->Nat} {t:T} {cv dv:Value}
theorem aDB (h:DbN W b ts tt i O) (hi:InvQ ts) (hT:RdT W cv dv t) (hsm:SmQ t) (hyes:mayP ts t=0) (h0:0<t.cols.length) (hc:t.cols.length<=1000) (h8:ts.length<=1000) :
  Calls Tryz.prog 35 #[.pointer (some ⟨b,0,none⟩),.agg #[.string t.nm,cv,.string t.key,dv]] W fun e w'=>e=.returned (.int .i64 0)/\∃ i' O',DbN w' b (ts++[formT t]) (tt++[rt0]) i' O'/\Ext W O O'/\Tn (fun q=>O q≠0/\O q<=4) W w':=by
 obtain⟨pc,kc,rfl,_,_⟩:=hT.1.slice;obtain⟨pd,kd,rfl,_,_⟩:=hT.2.slice;obtain⟨nc,hnc⟩:∃ n,t.cols.length=n:=⟨_,rfl⟩;obtain⟨nd,hnd⟩:∃ n,t.deps.length=n:=⟨_,rfl⟩;obtain⟨nm,hnm⟩:∃ n,t.nm=n:=⟨_,rfl⟩;obtain⟨key,hkey⟩:∃ n,t.key=n:=⟨_,rfl⟩;have hbl:=aD W (.cells #[.string nm,.slice pc nc kc,.string key,.slice pd nd kd] 77);have hV:=heap_alloc_new W (.cells #[.string nm,.slice pc nc kc,.string key,.slice pd nd kd] 77);have hT1:=hT.kp (Tn.of_below (S:=fun _=>False) hbl).kpX;have h1:=h.later hbl;obtain⟨w1,hw1⟩:∃ w1,W.alloc (.cells #[.string nm,.slice pc nc kc,.string key,.slice pd nd kd] 77)=w1:=⟨_,rfl⟩;obtain⟨V,hVe⟩:∃ V,W.heap.size=V:=⟨_,rfl⟩;rw[hw1] at hbl hV hT1 h1;rw[hVe] at hV;obtain⟨ps,cs,hsv,_,_⟩:=h1.form.isslice;obtain⟨po,co,hov,_,_⟩:=h1.outer.isslice;obtain⟨pn,cn,hnv,_,_⟩:=h1.nxs.isslice;have hsv:i.sv=.slice ps ts.length cs:=hsv;have hov:i.ov=.slice po ts.length co:=hov;have hnv:i.nv=.slice pn ts.length cn:=hnv;obtain⟨n,hn⟩:∃ n,ts.length=n:=⟨_,rfl⟩;rw[hn] at hsv hov hnv
 have hadd:∀ w,Below w1.heap.size w1 w->Calls Tryz.prog 67 #[.slice ps n cs,.agg #[.string nm,.slice pc nc kc,.string key,.slice pd nd kd]] w fun e w'=>e=.returned (.int .i64 0)/\Below w.heap.size w w':=fun w hw=>by
  have:=aDn (hT1.kp (Tn.of_below (S:=fun _=>False) hw).kpX) (h1.later hw).rdTs hi hsm
  rw[hnm,hkey,hnc,hnd,hyes,hsv] at this;exact this
 have hfrm:∀ w,Below w1.heap.size w1 w->Calls Tryz.prog 68 #[.agg #[.string nm,.slice pc nc kc,.string key,.slice pd nd kd]] w fun e w'=>∃ p1 c1,e=.returned (.agg #[.string nm,.slice p1 nc c1,.string key,.slice pd nd kd])/\RdT w' (.slice p1 nc c1) (.slice pd nd kd) (formT t)/\Below w.heap.size w w':=fun w hw=>by
  have:=pG (hT1.kp (Tn.of_below (S:=fun _=>False) hw).kpX) hc h0
  rw[hnm,hkey,hnc,hnd] at this;exact this
 have hbox:=h1.box;rw[hsv] at hbox
 have hsl:∀ q,(Value.slice ps n cs).ownBlock=some q->q<V:=fun q hq=>by
  rw[<- hVe];exact (HRow.lt h.form q (hsv▸hq)).2
 have hbV:b<V:=(by rw[<- hVe];exact aC h.box);have HA:=qAq hadd;have HF:=qAq hfrm;have HV:=qAq (qBq hV (qBq hbl (qBq hbox (qBq hsl hbV))));have HW:=qAq (qBq hw1 hVe);have HI:=qAq (qBq hsv (qBq hov (qBq hnv hn)));have H1:=qAq h1;have HH:=qAq h;have HN:=qAq (qBq hnm hkey);have HC8:=qAq h8;rw[hnm,hkey,hnc,hnd];clear h h1 hT hT1 hsm hV hbl hadd hfrm hyes hw1 hVe hnm hkey hnc hnd hi hsv hov hnv hn hbox hc h0 h8 hsl hbV;go_enter Tryz.func35,Tryz.ntmps35;go_upto_region 1 with fail;rw[HW.out.1,HW.out.2];refine Par.wp_region_par 5 [.pointer (some ⟨b,0,none⟩),.pointer (some ⟨b,0,none⟩),.pointer (some ⟨b,0,none⟩),.slice ps n cs,.agg #[.string nm,.slice pc nc kc,.string key,.slice pd nd kd]] (fun w=>Below w1.heap.size w1 w) ?A1 ?hm1 ?hB1 ?hA1 ((aF w1)) ?hop1 ?hT1
 case hm1=>kernel_rfl
 case hB1=>kernel_rfl
 case hA1 =>
  simp only[Par.putA,Par.dstAt,Act.put,qDq,qEq,qFq,qLq,qGq,qHq,qIq,qJq,qKq];rfl
 case hop1 =>
  simp only[qMq,List.take_zero,Par.GiveAll,and_true];and_intros<;>intro w' hR<;>have HR:=qAq hR
  rotate_left 2;have zl:=aC (aE hR HV.out.2.2.1);rotate_left;have x0:=aA (aE hR HV.out.2.2.1) 0;rotate_left;have x0:=aA (aE hR HV.out.1) 0;have x1:=aA (aE hR HV.out.1) 1;have x2:=aA (aE hR HV.out.1) 2;have x3:=aA (aE hR HV.out.1) 3;rotate_left
  all_goals(clear hR;simp only[Par.Gives];go_simp;all_goals exact HR.out)
 intro w' hR;simp only[qNq,List.drop_zero];have HR:=qAq hR;have hadd:=HA.out w' hR;clear hR;go_upto_region 4 with (go_at_call 67;(with_reducible refine hadd.mono ?_);rintro e w4 ⟨rfl,hD⟩;have H4:=qAq (aB HR.out hD);clear hadd hD);have h4:=H1.out.later H4.out
 have HX:Hid (∀ w,w4.grownBy w (Value.slice ps n cs).ownBlock->w.cell? ⟨b,0,none⟩=some (.slice ps n cs)/\b<w.heap.size/\w.heap[b]?=some (.cells #[.slice ps n cs,i.ov,i.nv] 71)/\w.cell? ⟨V,0,none⟩=some (.string nm)/\w.cell? ⟨V,1,none⟩=some (.slice pc nc kc)/\w.cell? ⟨V,2,none⟩=some (.string key)/\w.cell? ⟨V,3,none⟩=some (.slice pd nd kd)):=qAq (fun w hg=>by
  have kb:=aE H4.out HV.out.2.2.1;have kv:=aE H4.out HV.out.1
  have hb:=(hg.block b (aC kb) (fun e=>by
   obtain⟨_,c2,q2⟩:=h4.form.block b (by rw[HI.out.1];exact e.symm);rw[kb] at q2;cases q2)).trans kb
  have hv:=(hg.block V (aC kv) (fun e=>by have:=HV.out.2.2.2.1 V e.symm;omega)).trans kv;exact⟨aA hb 0,aC hb,hb,aA hv 0,aA hv 1,aA hv 2,aA hv 3⟩)
 have H4f:Hid (HRow w4 0 77 4 (.slice ps n cs) n (cellsF i.fs ts)):=qAq (by
  have:=h4.form
  rw[HI.out.1,HI.out.2.2.2] at this;exact this)
 have HD4:=qAq h4;have hn1:n+1<=1000000:=(by have:=HC8.out;have:=HI.out.2.2.2;omega);clear h4;refine Par.wp_region_par4 11 (FJ w4 (fun idx=>[(Value.pointer (some ⟨b,0,none⟩)),(Value.pointer (some ⟨b,0,none⟩)),(Value.pointer (some ⟨b,0,none⟩)),(Value.pointer (some ⟨b,0,none⟩)),.slice ps n cs,.agg #[.string nm,.slice pc nc kc,.string key,.slice pd nd kd],undef,undef,undef,(Value.pointer (some ⟨b,0,none⟩)),(Value.pointer (some ⟨b,0,none⟩))].getD idx undef) (.slice ps n cs) n (cellsF i.fs ts) nm key nc (.slice pd nd kd) (formT t)) ?AA ?hmA ?hBA ?hAA ?hJA ?hopA ?hTA
 case hmA=>kernel_rfl
 case hBA=>kernel_rfl
 case hAA =>
  intro vs;simp only[Par.putA,Par.dstAt,Act.put,qDq,qEq,qFq,qLq,qGq,qHq,qIq];rfl
 case hJA =>
  intro vs;have hd:=aF w4;exact⟨cZ hd,fun _=>hd,fun _ _ h=>(by cases h),fun h=>(by cases h),fun h=>(by cases h),fun h=>(by cases h)⟩
 case hopA =>
  simp only[qMq,List.take_zero,Par.GiveAllK,and_true];and_intros<;>intro l vs w hJ hl hd hcl
  ·have HJ:=qAq hJ;obtain⟨x0,xl,xb,x1,x2,x3,x4⟩:=HX.out w hJ.gb;clear xb;clear hJ hd hcl;simp only[Par.GivesW];go_simp;all_goals exact HJ.out.up 0 (by decide)
  ·have HJ:=qAq hJ;obtain⟨x0,xl,xb,x1,x2,x3,x4⟩:=HX.out w hJ.gb;clear xb;clear hJ hd hcl;simp only[Par.GivesW];go_simp;all_goals exact HJ.out.up 1 (by decide)
  ·have HJ:=qAq hJ;obtain⟨x0,xl,xb,x1,x2,x3,x4⟩:=HX.out w hJ.gb;clear xb;have d1:vs 1=(Value.pointer (some ⟨b,0,none⟩)):=hJ.ev 1 (by decide) (hd 1 (by kernel_rfl));clear hJ hd hcl;simp only[Par.GivesW,d1];go_simp;all_goals exact HJ.out.up 2 (by decide)
  ·have HJ:=qAq hJ;obtain⟨x0,xl,xb,x1,x2,x3,x4⟩:=HX.out w hJ.gb;clear xb;have d2:vs 2=(Value.pointer (some ⟨b,0,none⟩)):=hJ.ev 2 (by decide) (hd 2 (by kernel_rfl));clear hJ hd hcl;simp only[Par.GivesW,d2];go_simp;all_goals exact HJ.out.up 3 (by decide)
  ·have HJ:=qAq hJ;obtain⟨x0,xl,xb,x1,x2,x3,x4⟩:=HX.out w hJ.gb;clear xb;have d3:vs 3=(Value.pointer (some ⟨b,0,none⟩)):=hJ.ev 3 (by decide) (hd 3 (by kernel_rfl));clear hJ hd hcl;simp only[Par.GivesW,d3];go_simp;all_goals exact HJ.out.up 4 (by decide)
  ·have HJ:=qAq hJ;obtain⟨x0,xl,xb,x1,x2,x3,x4⟩:=HX.out w hJ.gb;clear xb;clear hJ hd hcl;simp only[Par.GivesW];go_simp;all_goals exact HJ.out.up 5 (by decide)
  ·have h7:l 7=false:=(by cases h:l 7 with|false=>rfl|true=>exact absurd (hcl 7 6 (by kernel_rfl) h) (by simp[hl]));have h8:l 8=false:=(by cases h:l 8 with|false=>rfl|true=>exact absurd (hcl 8 7 (by kernel_rfl) h) (by simp[h7]));have HJ:=qAq hJ;have d5:vs 5=.agg #[.string nm,.slice pc nc kc,.string key,.slice pd nd kd]:=hJ.ev 5 (by decide) (hd 5 (by kernel_rfl));have hc:=HF.out w (aB H4.out (hJ.f0 h8));clear hJ hd hcl;simp only[Par.GivesW,d5];go_simp;refine hc.mono ?_;rintro e y ⟨p1,c1,rfl,hr,hb⟩;exact⟨_,rfl,HJ.out.s6 h7 h8 hr hb⟩
  ·have h8:l 8=false:=(by cases h:l 8 with|false=>rfl|true=>exact absurd (hcl 8 7 (by kernel_rfl) h) (by simp[hl]));have h6:=hd 6 (by kernel_rfl);obtain⟨p1,c1,e6,hr⟩:=hJ.f6 h6 h8;have HJ:=qAq (hJ.s7 h8 e6 hr);clear hJ hd hcl hr;simp only[Par.GivesW,e6];go_simp;all_goals exact HJ.out
  ·have h7:=hd 7 (by kernel_rfl);obtain⟨p1,c1,g0,e6,hr,e7,hh⟩:=hJ.f7 h7 hl;have d4:vs 4=.slice ps n cs:=hJ.ev 4 (by decide) (hd 4 (by kernel_rfl))
   obtain⟨g,cg,w6,hrun,hr6,hg6,ho6⟩:=rJ (ty:=68) Tryz.underlying68 aAg rfl (by decide) (by decide) w 0 (H4f.out.later (hJ.f0 hl)) hn1 (Nat.zero_le _) g0 _ hh rfl (by
    intro x hx;simp only[List.mem_cons,List.not_mem_nil,or_false] at hx;rcases hx with rfl|rfl|rfl|rfl <;> rfl)
   exact Par.gives_append rfl (.tmp 19) (.tmp 22) 68 68 rfl d4 e7 hrun (hJ.s8 hl hr H4f.out rfl hr6 hg6 ho6)
  ·have HJ:=qAq hJ;obtain⟨x0,xl,xb,x1,x2,x3,x4⟩:=HX.out w hJ.gb;clear xb;have d0:vs 0=(Value.pointer (some ⟨b,0,none⟩)):=hJ.ev 0 (by decide) (hd 0 (by kernel_rfl));clear hJ hd hcl;simp only[Par.GivesW,d0];go_simp;all_goals exact HJ.out.up 9 (by decide)
  have HJ:=qAq hJ;obtain⟨x0,xl,xb,x1,x2,x3,x4⟩:=HX.out w hJ.gb;clear xb;have d9:vs 9=(Value.pointer (some ⟨b,0,none⟩)):=hJ.ev 9 (by decide) (hd 9 (by kernel_rfl));clear hJ hd hcl;simp only[Par.GivesW,d9];go_simp;all_goals exact HJ.out.up 10 (by decide)
 intro l vs w6 hl hJ;simp only[qNq,List.drop_zero];have d10:vs 10=(Value.pointer (some ⟨b,0,none⟩)):=hJ.ev 10 (by decide) (hl 10 (by decide));obtain⟨g8,c8,p1,c1,e8,r8,s8,t8⟩:=hJ.f8 (hl 8 (by decide));obtain⟨x0,xl,xb,_⟩:=HX.out w6 hJ.gb;have xf:w6.frozen? ⟨b,0,none⟩=false:=frozen_of_row w6 b 0 _ _ xb;have hbox7:=heap_setCell_same w6 b 0 _ 71 (.slice (some ⟨g8,0,none⟩) (n+1) c8) xb;obtain⟨htn7,hnb7⟩:=aAj (k:=0) (v:=.slice (some ⟨g8,0,none⟩) (n+1) c8) xb
 have htn6:=aAi hJ.gb (fun q hq=>by
  obtain⟨_,cur,e⟩:=H4f.out.block q hq;exact⟨cur,e⟩)
 have ho6:HRow w6 0 92 1 i.ov n (tt.map (·.rv)):=by
  have:=HD4.out.outer
  rw[HI.out.2.2.2] at this
  exact this.by_other hJ.gb (fun k cur e1 e2=>by
   obtain⟨_,c2,q2⟩:=H4f.out.block k e1;rw[e2] at q2;cases q2)
 have hn6:HRow w6 0 3 1 i.nv n (tt.map fun x=>Value.int .i64 (x.nx:Int)):=by
  have:=HD4.out.nxs
  rw[HI.out.2.2.2] at this
  exact this.by_other hJ.gb (fun k cur e1 e2=>by
   obtain⟨_,c2,q2⟩:=H4f.out.block k e1;rw[e2] at q2;cases q2)
 have r8b:=hnb7 r8 (by decide);have o7:=hnb7 ho6 (by decide);have n7:=hnb7 hn6 (by decide);have t8b:=t8.kp htn7.kpX;have htn47:=htn6.trans htn7 (T1:=fun q=>q=b∨(Value.slice ps n cs).ownBlock=some q) (fun _ _ h=>.inr h) (fun _ _ h=>.inl h);rw[HI.out.2.1] at o7 hbox7;rw[HI.out.2.2.1] at n7 hbox7;obtain⟨w7,hw7⟩:∃ w7,w6.setCell ⟨b,0,none⟩ (.slice (some ⟨g8,0,none⟩) (n+1) c8)=w7:=⟨_,rfl⟩;rw[hw7] at r8b o7 n7 t8b htn47 hbox7;have hbox7:w7.heap[b]?=some (.cells #[.slice (some ⟨g8,0,none⟩) (n+1) c8,.slice po n co,.slice pn n cn] 71):=hbox7;have H7:=qAq (qBq r8b (qBq o7 (qBq n7 (qBq t8b (qBq htn47 (qBq hbox7 s8))))));have HW7:=qAq hw7;rw[e8,d10];clear hJ hl e8 r8 s8 t8 xb hbox7 htn7 hnb7 htn6 ho6 hn6 r8b o7 n7 t8b htn47 hw7;go_upto_region 5 with fail;rw[HW7.out];clear x0 xf xl;refine Par.wp_region_par4 17 (AJ w7 (fun idx=>[(Value.pointer (some ⟨b,0,none⟩)),(Value.pointer (some ⟨b,0,none⟩)),(Value.pointer (some ⟨b,0,none⟩)),(Value.pointer (some ⟨b,0,none⟩)),(Value.pointer (some ⟨b,1,none⟩)),.slice po n co,undef,undef,(Value.pointer (some ⟨b,0,none⟩)),(Value.pointer (some ⟨b,0,none⟩)),(Value.pointer (some ⟨b,2,none⟩)),.slice pn n cn,undef,undef,(Value.pointer (some ⟨b,0,none⟩)),(Value.pointer (some ⟨b,1,none⟩)),undef].getD idx undef) b (.slice (some ⟨g8,0,none⟩) (n+1) c8) (.slice po n co) (.slice pn n cn) n (tt.map (·.rv)) (tt.map fun x=>Value.int .i64 (x.nx:Int))) ?AB ?hmB ?hBB ?hAB ?hJB ?hopB ?hTB
 case hmB=>kernel_rfl
 case hBB=>kernel_rfl
 case hAB =>
  intro vs;simp only[Par.putA,Par.dstAt,Act.put,qDq,qEq,qFq,qLq,qGq,qHq,qIq];rfl
 case hJB =>
  intro vs;have hd:=aF w7;obtain⟨a1,a2,a3,a4,a5,a6,a7⟩:=H7.out;exact⟨Tn.of_below hd,fun _ _ _ _ _ _ _ h=>(by cases h),aE hd a6,fun _=>a2.later hd,fun _=>a3.later hd,fun h=>(by cases h),fun h=>(by cases h),fun h=>(by cases h),fun h=>(by cases h)⟩
 case hopB =>
  simp only[qMq,List.take_zero,Par.GiveAllK,and_true];and_intros<;>intro l vs w hJ hl hd hcl
  ·have HJ:=qAq hJ;have xl:=aC hJ.box;clear hJ hd hcl;simp only[Par.GivesW];go_simp;all_goals exact HJ.out.up 0 (by decide)
  ·have HJ:=qAq hJ;have xl:=aC hJ.box;clear hJ hd hcl;simp only[Par.GivesW];go_simp;all_goals exact HJ.out.up 1 (by decide)
  ·have HJ:=qAq hJ;have xl:=aC hJ.box;clear hJ hd hcl;simp only[Par.GivesW];go_simp;all_goals exact HJ.out.up 2 (by decide)
  ·have HJ:=qAq hJ;have xl:=aC hJ.box;have d2:vs 2=(Value.pointer (some ⟨b,0,none⟩)):=hJ.ev 2 (by decide) (by decide) (by decide) (by decide) (by decide) (by decide) (hd 2 (by kernel_rfl));clear hJ hd hcl;simp only[Par.GivesW,d2];go_simp;all_goals exact HJ.out.up 3 (by decide)
  ·have HJ:=qAq hJ;have xl:=aC hJ.box;have d3:vs 3=(Value.pointer (some ⟨b,0,none⟩)):=hJ.ev 3 (by decide) (by decide) (by decide) (by decide) (by decide) (by decide) (hd 3 (by kernel_rfl));clear hJ hd hcl;simp only[Par.GivesW,d3];go_simp;all_goals exact HJ.out.up 4 (by decide)
  ·have HJ:=qAq hJ;have h7:l 7=false:=(by cases h:l 7 with|false=>rfl|true=>exact absurd (hcl 7 5 (by kernel_rfl) h) (by simp[hl]));have h16:l 16=false:=(by cases h:l 16 with|false=>rfl|true=>exact absurd (hcl 16 7 (by kernel_rfl) h) (by simp[h7]));have hbx:=hJ.box;rw[h16] at hbx;have xl:=aC hbx;have x1:w.cell? ⟨b,1,none⟩=some (.slice po n co):=aA hbx 1;clear hbx h7 h16;have d4:vs 4=(Value.pointer (some ⟨b,1,none⟩)):=hJ.ev 4 (by decide) (by decide) (by decide) (by decide) (by decide) (by decide) (hd 4 (by kernel_rfl));clear hJ hd hcl;simp only[Par.GivesW,d4];go_simp;all_goals exact HJ.out.up 5 (by decide)
  ·have h7:l 7=false:=(by cases h:l 7 with|false=>rfl|true=>exact absurd (hcl 7 6 (by kernel_rfl) h) (by simp[hl]));have HJ:=qAq (hJ.s6 h7);clear hJ hd hcl;simp only[Par.GivesW];go_simp;all_goals exact HJ.out
  ·have h13:l 13=false:=(by cases h:l 13 with|false=>rfl|true=>exact absurd (hcl 13 7 (by kernel_rfl) h) (by simp[hl]));have h16:l 16=false:=(by cases h:l 16 with|false=>rfl|true=>exact absurd (hcl 16 7 (by kernel_rfl) h) (by simp[hl]));obtain⟨g0,e6,hh,_⟩:=hJ.f6 (hd 6 (by kernel_rfl)) hl;have d5:vs 5=.slice po n co:=hJ.ev 5 (by decide) (by decide) (by decide) (by decide) (by decide) (by decide) (hd 5 (by kernel_rfl))
   obtain⟨g,cg,w6,hrun,hr6,hg6,ho6⟩:=rJ (ty:=69) Tryz.underlying69 aAh rfl (by decide) (by decide) w 0 (hJ.r7 hl) hn1 (Nat.zero_le _) g0 _ hh rfl (by
    intro x hx;simp only[List.mem_cons,List.not_mem_nil,or_false] at hx;rcases hx with rfl;rfl)
   exact Par.gives_append rfl (.tmp 31) (.tmp 32) 69 69 rfl d5 e6 hrun (hJ.s7 hl h13 h16 rfl hr6 hg6 ho6)
  ·have HJ:=qAq hJ;have xl:=aC hJ.box;clear hJ hd hcl;simp only[Par.GivesW];go_simp;all_goals exact HJ.out.up 8 (by decide)
  ·have HJ:=qAq hJ;have xl:=aC hJ.box;have d8:vs 8=(Value.pointer (some ⟨b,0,none⟩)):=hJ.ev 8 (by decide) (by decide) (by decide) (by decide) (by decide) (by decide) (hd 8 (by kernel_rfl));clear hJ hd hcl;simp only[Par.GivesW,d8];go_simp;all_goals exact HJ.out.up 9 (by decide)
  ·have HJ:=qAq hJ;have xl:=aC hJ.box;have d9:vs 9=(Value.pointer (some ⟨b,0,none⟩)):=hJ.ev 9 (by decide) (by decide) (by decide) (by decide) (by decide) (by decide) (hd 9 (by kernel_rfl));clear hJ hd hcl;simp only[Par.GivesW,d9];go_simp;all_goals exact HJ.out.up 10 (by decide)
  ·have HJ:=qAq hJ;have xl:=aC hJ.box;have x2:w.cell? ⟨b,2,none⟩=some (.slice pn n cn):=aA hJ.box 2;have d10:vs 10=(Value.pointer (some ⟨b,2,none⟩)):=hJ.ev 10 (by decide) (by decide) (by decide) (by decide) (by decide) (by decide) (hd 10 (by kernel_rfl));clear hJ hd hcl;simp only[Par.GivesW,d10];go_simp;all_goals exact HJ.out.up 11 (by decide)
  ·have h13:l 13=false:=(by cases h:l 13 with|false=>rfl|true=>exact absurd (hcl 13 12 (by kernel_rfl) h) (by simp[hl]));have HJ:=qAq (hJ.s12 h13);clear hJ hd hcl;simp only[Par.GivesW];go_simp;all_goals exact HJ.out
  ·have h16:l 16=false:=(by cases h:l 16 with|false=>rfl|true=>exact absurd (hcl 16 13 (by kernel_rfl) h) (by simp[hl]));obtain⟨g0,e12,hh,_⟩:=hJ.f12 (hd 12 (by kernel_rfl)) hl;have d11:vs 11=.slice pn n cn:=hJ.ev 11 (by decide) (by decide) (by decide) (by decide) (by decide) (by decide) (hd 11 (by kernel_rfl))
   obtain⟨g,cg,w6,hrun,hr6,hg6,ho6⟩:=rJ (ty:=45) Tryz.underlying45 aDz rfl (by decide) (by decide) w 0 (hJ.r13 hl) hn1 (Nat.zero_le _) g0 _ hh rfl (by
    intro x hx;simp only[List.mem_cons,List.not_mem_nil,or_false] at hx;rcases hx with rfl;rfl)
   exact Par.gives_append rfl (.tmp 37) (.tmp 38) 45 45 rfl d11 e12 hrun (hJ.s13 (hd 7 (by kernel_rfl)) hl h16 rfl hr6 hg6 ho6)
  ·have HJ:=qAq hJ;have xl:=aC hJ.box;have d0:vs 0=(Value.pointer (some ⟨b,0,none⟩)):=hJ.ev 0 (by decide) (by decide) (by decide) (by decide) (by decide) (by decide) (hd 0 (by kernel_rfl));clear hJ hd hcl;simp only[Par.GivesW,d0];go_simp;all_goals exact HJ.out.up 14 (by decide)
  ·have HJ:=qAq hJ;have xl:=aC hJ.box;have d14:vs 14=(Value.pointer (some ⟨b,0,none⟩)):=hJ.ev 14 (by decide) (by decide) (by decide) (by decide) (by decide) (by decide) (hd 14 (by kernel_rfl));clear hJ hd hcl;simp only[Par.GivesW,d14];go_simp;all_goals exact HJ.out.up 15 (by decide)
  have d15:vs 15=(Value.pointer (some ⟨b,1,none⟩)):=hJ.ev 15 (by decide) (by decide) (by decide) (by decide) (by decide) (by decide) (hd 15 (by kernel_rfl));have h7:=hd 7 (by kernel_rfl);have h13:=hd 13 (by kernel_rfl);obtain⟨g7,c7,e7,_,_⟩:=hJ.f7 h7;have xb:=hJ.box;have xl:=aC xb;have xf:w.frozen? ⟨b,1,none⟩=false:=frozen_of_row w b 1 _ _ xb;have x1:=aA xb 1;have HJ:=qAq (hJ.s16 h7 h13 hl undef);rw[e7] at HJ;clear hJ hd hcl xb;simp only[Par.GivesW,d15,e7];go_simp;all_goals exact HJ.out
 intro l vs w8 hl hJ;simp only[qNq,List.drop_zero];have d1:vs 1=(Value.pointer (some ⟨b,0,none⟩)):=hJ.ev 1 (by decide) (by decide) (by decide) (by decide) (by decide) (by decide) (hl 1 (by decide));obtain⟨g7,c7,e7,r7,s7⟩:=hJ.f7 (hl 7 (by decide));obtain⟨g13,c13,e13,r13,s13⟩:=hJ.f13 (hl 13 (by decide));have xb:=hJ.box;rw[hl 16 (by decide),if_pos rfl,e7] at xb;have xl:=aC xb;have xf:w8.frozen? ⟨b,2,none⟩=false:=frozen_of_row w8 b 2 _ _ xb;have x2:=aA xb 2;have htn:=hJ.tn;have H8:=qAq (qBq r7 (qBq s7 (qBq r13 (qBq s13 (qBq xb htn)))));rw[d1,e13];clear hJ hl e7 r7 s7 r13 s13 xb htn d1 e13;go_wp2_with fail;go_ret;obtain⟨r7,s7,r13,s13,xb,htn⟩:=H8.out;obtain⟨a1,a2,a3,a4,a5,a6,a7⟩:=H7.out;have hbox9:=heap_setCell_same w8 b 2 _ 71 (.slice (some ⟨g13,0,none⟩) (n+1) c13) xb;obtain⟨htn9,hnb9⟩:=aAj (k:=2) (v:=.slice (some ⟨g13,0,none⟩) (n+1) c13) xb
 have f8:HRow w8 0 77 4 (.slice (some ⟨g8,0,none⟩) (n+1) c8) (n+1) (cellsF i.fs ts++[.string nm,.slice p1 nc c1,.string key,.slice pd nd kd]):=a1.of (fun k hk=>by
  obtain⟨_,c2,q2⟩:=a1.block k hk;refine htn.chg.block k (aC q2) (fun hS=>?_);rcases hS with e|e|e
  ·rw[e,a6] at q2;cases q2
  ·obtain⟨_,c3,q3⟩:=a2.block k e;rw[q3] at q2;cases q2
  obtain⟨_,c3,q3⟩:=a3.block k e;rw[q3] at q2;cases q2)
 have f9:=hnb9 f8 (by decide);have o9:=hnb9 r7 (by decide);have n9:=hnb9 r13 (by decide);have t9:=a4.kp (htn.trans htn9 (T1:=fun _=>True) (fun _ _ _=>trivial) (fun _ _ _=>trivial)).kpX;have hD:=HD4.out;have e2:=hD.o2;have e3:=hD.o3;have e4:=hD.o4;rw[HI.out.1] at e2;rw[HI.out.2.1] at e3;rw[HI.out.2.2.1] at e4;have e1:=hD.o1;have k1:∀ q,q=b->O q≠0/\O q<=4:=fun q hq=>by rw[hq,e1];decide
 have tnAll:Tn (fun q=>O q≠0/\O q<=4) w4 (w8.setCell ⟨b,2,none⟩ (.slice (some ⟨g13,0,none⟩) (n+1) c13)) :=
  (a5.trans htn (T1:=fun q=>O q≠0/\O q<=4) (fun q _ hq=>hq.elim (k1 q) (fun hq=>by rw[e2 q hq];decide)) (fun q _ hq=>hq.elim (k1 q) (fun hq=>hq.elim (fun hq=>by rw[e3 q hq];decide) (fun hq=>by rw[e4 q hq];decide)))).trans htn9 (fun _ _ h=>h) (fun q _ hq=>k1 q hq)
 have hfin:=hD.addtab (t:=formT t) (c:=.slice p1 nc c1) (d:=.slice pd nd kd) hbox9 tnAll (by rw[HI.out.2.2.2];exact HN.out.1▸HN.out.2▸f9) t9 (by rw[HI.out.2.2.2];exact o9) (by rw[HI.out.2.2.2];exact n9)
  (fun q hq=>by rw[HI.out.1];cases hq;exact a7) (fun q hq=>by rw[HI.out.2.1];cases hq;exact s7.imp id (fun h=>Nat.le_trans a5.size h)) (fun q hq=>by rw[HI.out.2.2.1];cases hq;exact s13.imp id (fun h=>Nat.le_trans a5.size h))
 have hbW:=aB HV.out.2.1 H4.out;exact⟨rfl,_,_,hfin.1,fun q hq=>hfin.2 q (Nat.lt_of_lt_of_le hq hbW.size),(Tn.of_below (S:=fun q=>O q≠0/\O q<=4) hbW).trans tnAll (fun _ _ h=>h) (fun _ _ h=>h)⟩
end
