import Derived.Test.YthlccadnojnkaaaGreatZk26
import Derived.Test.YthlccadnojnkaaaGreatZk22
set_option maxHeartbeats 8000000
set_option maxRecDepth 100000
namespace Go.Proofs.YthlccadnojnkaaaGreat
open Go Go.RowKit Go.Proofs Co Co.S
section
variable {W w:World} {b:Nat} {ts:List T} {tt:List RT} {i:NI} {O:Nat->Nat} {t:Nat} {y:RT}
theorem DbN.delrow (h:DbN W b ts tt i O) (ht:t<ts.length) (hy:tt[t]?=some y) {go co:Nat} (ho:i.ov=.slice (some ⟨go,0,none⟩) ts.length co) {k:Nat} (hk:k<y.A.length) {rv:Value} (hr:HRow w 0 99 2 rv (y.A.length-1) ((cellsR y.A y.vs).take (k*2)++(cellsR y.A y.vs).drop ((k+1)*2)))
  (hb:Below W.heap.size W w) (hf:∀ q,rv.ownBlock=some q->W.heap.size<=q) :
  ∃ O',DbN (w.setCell ⟨go,t,none⟩ rv) b ts (tt.set t ⟨rv,y.nx,without y.A y.A[k].1,y.vs.eraseIdx k⟩) i O'/\Ext W O O'/\Tn (fun q=>O q≠0) W (w.setCell ⟨go,t,none⟩ rv):=by
 have hx:=h.ok ht hy;rw[oV hx.srt hk];have hk':k<y.vs.length:=(by rw[hx.n];exact hk);have hlo:O go=3:=h.o3 go (by rw[ho];rfl);have hgo:go<W.heap.size:=h.lt go (by rw[hlo];decide)
 have hout:HRow w 0 92 1 (.slice (some ⟨go,0,none⟩) ts.length co) ts.length (tt.map (·.rv)):=by
  have:=(h.later hb).outer
  rw[ho] at this;exact this
 obtain⟨s1,s2⟩:=hout.stored t rv;generalize w.setCell ⟨go,t,none⟩ rv=w2 at s1 s2 ⊢;have hz:W.heap.size<=w2.heap.size:=Nat.le_trans hb.size s2.size;have hother:∀ q,q<w.heap.size->q≠go->w2.heap[q]?=w.heap[q]?:=fun q hq hn=>s2.block q hq (fun e=>hn (by cases e;rfl))
 have hchg:Chg (fun q=>q=go) W w2:=⟨s2.os.trans hb.os,s2.tape.trans hb.tape,s2.output.trans hb.output,hz,fun q hq hn=>by
  rw[hother q (Nat.lt_of_lt_of_le hq hb.size) hn,hb.block q hq]⟩
 have htn:Tn (fun q=>q=go) W w2:=Tn.of_chg hchg (fun q _ hq=>.inl (by
  obtain⟨_,cur,hb⟩:=h.outer.block q (by rw[ho,hq];rfl);exact⟨cur,92,hb,rfl⟩))
 have hgl:∀ q,rv.ownBlock=some q->q<w.heap.size:=(fun q hq=>(HRow.lt hr q hq).2);have hvl:∀ k (hk:k<y.vs.length) q,y.vs[k].ownBlock=some q->q<W.heap.size:=(fun k hk q hq=>h.lt q (by rw[hx.ovs k hk q hq];omega));have hkeep:∀ q,O q=6+2*t->w2.heap[q]?=W.heap[q]?:=fun q hq=>hchg.block q (h.lt q (by omega)) (fun hS=>by rw[hS] at hq;omega)
 have hat:∀ j (hj:j<(y.vs.eraseIdx k).length),∃ m,∃ hm:m<y.vs.length,(y.vs.eraseIdx k)[j]=y.vs[m]/\(∀ (hA:j<(y.A.eraseIdx k).length),∃ hm':m<y.A.length,(y.A.eraseIdx k)[j]=y.A[m])/\m=if j<k then j else j+1:=fun j hj=>by
  have hlv:(y.vs.eraseIdx k).length=y.vs.length-1:=List.length_eraseIdx_of_lt hk';by_cases e:j<k
  ·refine⟨j,by omega,by rw[List.getElem_eraseIdx_of_lt _ e],fun hA=>⟨by omega,by rw[List.getElem_eraseIdx_of_lt _ e]⟩,by rw[if_pos e]⟩
  refine⟨j+1,by omega,by rw[List.getElem_eraseIdx_of_ge _ (by omega)],fun hA=>⟨by have:=hx.n;omega,by rw[List.getElem_eraseIdx_of_ge _ (by omega)]⟩,by rw[if_neg e]⟩
 have hE:∀ q,q<W.heap.size->(if q<W.heap.size then O q else if rv.ownBlock=some q then 5+2*t else 0)=O q:=(fun q hq=>if_pos hq);refine⟨fun q=>if q<W.heap.size then O q else if rv.ownBlock=some q then 5+2*t else 0,h.settab ht htn (fun q hq=>.inr (.inl (by rw[hq];exact hlo))) hE (fun q hq=>?_) ⟨?_,?_,fun j hj hj'=>?_,fun j m hj hm hne q hq=>?_,fun a ha=>hx.len a (List.mem_of_mem_eraseIdx ha),hx.srt.sublist (List.eraseIdx_sublist _ _),fun a ha=>hx.rng a (List.mem_of_mem_eraseIdx ha),fun q hq=>?_,fun j hj q hq=>?_⟩ (fun z hz=>by rw[hy] at hz;cases hz;rfl) ?_,hE,htn.mono (fun q _ hq=>by show O q≠0;rw[hq,hlo];decide)⟩
 ·have hq:(if q<W.heap.size then O q else if rv.ownBlock=some q then 5+2*t else 0)≠0:=hq;by_cases e1:q<W.heap.size
  ·omega
  rw[if_neg e1] at hq;by_cases e3:rv.ownBlock=some q
  ·exact Nat.lt_of_lt_of_le (hgl q e3) s2.size
  rw[if_neg e3] at hq;exact absurd rfl hq
 ·show HRow w2 0 99 2 rv (y.A.eraseIdx k).length (cellsR (y.A.eraseIdx k) (y.vs.eraseIdx k));rw[rE hx.n hk,List.length_eraseIdx_of_lt hk];exact hr.of (fun q hq=>hother q (hgl q hq) (fun e=>by have:=hf q hq;omega))
 ·show (y.vs.eraseIdx k).length=(y.A.eraseIdx k).length;rw[List.length_eraseIdx_of_lt hk,List.length_eraseIdx_of_lt hk',hx.n]
 ·obtain⟨m,hm,e1,e2,_⟩:=hat j hj';obtain⟨hm',e2⟩:=e2 hj;show HRow w2 0 32 3 ((y.vs.eraseIdx k)[j]) _ _;have e2':(y.A.eraseIdx k)[j]'hj=y.A[m]:=e2;rw[e1];show HRow w2 0 32 3 y.vs[m] ((y.A.eraseIdx k)[j]'hj).2.length (cells3 ((y.A.eraseIdx k)[j]'hj).2);rw[e2'];exact (hx.vals m hm' hm).of (fun q hq=>hkeep q (hx.ovs m hm q hq))
 ·obtain⟨a,ha,e1,_,e3⟩:=hat j hj;obtain⟨c,hc,e4,_,e5⟩:=hat m hm;have hq:(y.vs.eraseIdx k)[j].ownBlock=some q:=hq;show (y.vs.eraseIdx k)[m].ownBlock≠some q;rw[e1] at hq;rw[e4];refine hx.sep a c ha hc (fun e=>hne ?_) q hq;rw[e3,e5] at e;split at e <;> split at e <;> omega
 ·have hq:rv.ownBlock=some q:=hq;show (if q<W.heap.size then O q else if rv.ownBlock=some q then 5+2*t else 0)=5+2*t;rw[if_neg (by have:=hf q hq;omega),if_pos hq]
 ·obtain⟨m,hm,e1,_,_⟩:=hat j hj;have hq:(y.vs.eraseIdx k)[j].ownBlock=some q:=hq;rw[e1] at hq;show (if q<W.heap.size then O q else _)=6+2*t;rw[if_pos (hvl m hm q hq)];exact hx.ovs m hm q hq
 rw[nA,ho];exact s1
end
theorem tH (y:World) (base:Nat) {v:Value} {n:Nat} {xs:List Value} (hr:HRow y base 99 2 v n xs) {q:Option Addr} {m d:Nat} {ys:List Value} (hlen:ys.length=m*2) (hc:0<m->∃ b off,q=some ⟨b,off,none⟩/\∀ j u,ys[j]?=some u->y.cell? ⟨b,off+j,none⟩=some u) (h1:∀ u∈ys,u.oneCell'=true)
  (hnm:n+m<=1000000) (hb:base<=y.heap.size) :
  ∃ v' w',(Builtin.append_ #[92,92] 92 #[v,.slice q m d]).run Tryz.prog y=.ok v' w'/\HRow w' base 99 2 v' (n+m) (xs++ys)/\y.grownBy w' v.ownBlock:=by
 obtain⟨i0,hi0,hz0,hz1,hz2⟩:=info_parts zY;obtain⟨p,c,rfl,hnc,_⟩:=hr.isslice;rcases Nat.eq_zero_or_pos m with rfl|hpos
 ·have:ys=[]:=List.eq_nil_of_length_eq_zero (by omega);subst this;exact⟨_,y,tG Tryz.underlying92 hi0 hnc,by rw[List.append_nil];exact hr,⟨rfl,rfl,rfl,Nat.le_refl _,fun _ _ _=>rfl⟩⟩
 obtain⟨b,off,rfl,hcell⟩:=hc hpos
 obtain⟨g,cap,w',h2,h3,h4,_⟩:=aY (P:=Tryz.prog) y base 92 92 99 i0 _ 2 32 Tryz.underlying92 hi0 hz0 hz1 hz2 rfl (by decide) hr ⟨b,off,none⟩ m d ys hlen (fun j u hj=>by
  rw[Addr.add_lit];exact hcell j u hj) h1 hpos (by unfold maxLen;omega) (by omega) hb
 exact⟨_,w',h2,h3,h4⟩
structure EJ (W0:World) (E:Nat->Value) (k m:Nat) (xs ys:List Value) (l:Nat->Bool) (vs:Nat->Value) (w:World):Prop where
 bl:Below W0.heap.size W0 w
 ev:∀ j,j≠14->j≠24->j≠25->l j=true->vs j=E j
 f14:l 14=true->l 25=false->HRow w W0.heap.size 99 2 (vs 14) k xs
 f24:l 24=true->∃ q d,vs 24=.slice q m d/\(0<m->∃ b off,q=some ⟨b,off,none⟩/\∀ j u,ys[j]?=some u->W0.cell? ⟨b,off+j,none⟩=some u)
 f25:l 25=true->HRow w W0.heap.size 99 2 (vs 25) (k+m) (xs++ys)
section
open Par
variable {W0 w w':World} {E:Nat->Value} {k m:Nat} {xs ys:List Value} {l:Nat->Bool} {vs:Nat->Value}
theorem EJ.up (h:EJ W0 E k m xs ys l vs w) (i:Nat) (hi:i≠14/\i≠24/\i≠25):EJ W0 E k m xs ys (upB l i) (upV vs i (E i)) w:=by
 have e:∀ j,j=14∨j=24∨j=25->upB l i j=l j/\upV vs i (E i) j=vs j:=(fun j hj=>⟨aI (by omega),aJ (by omega)⟩);refine⟨h.bl,fun j a b c hl=>?_,fun h1 h2=>?_,fun hl=>?_,fun hl=>?_⟩
 ·by_cases e:j=i
  ·subst e;rw[aS]
  rw[aJ e];rw[aI e] at hl;exact h.ev j a b c hl
 ·rw[(e 14 (by simp)).1] at h1;rw[(e 25 (by simp)).1] at h2;rw[(e 14 (by simp)).2];exact h.f14 h1 h2
 ·rw[(e 24 (by simp)).1] at hl;rw[(e 24 (by simp)).2];exact h.f24 hl
 rw[(e 25 (by simp)).1] at hl;rw[(e 25 (by simp)).2];exact h.f25 hl
theorem EJ.s14 (h:EJ W0 E k m xs ys l vs w) (h25:l 25=false) {v:Value} (hr:HRow w' W0.heap.size 99 2 v k xs) (hb:Below w.heap.size w w'):EJ W0 E k m xs ys (upB l 14) (upV vs 14 v) w':=by
 refine⟨aB h.bl hb,fun j a b c hl=>?_,fun h1 h2=>?_,fun hl=>?_,fun hl=>?_⟩
 ·rw[aJ a];rw[aI a] at hl;exact h.ev j a b c hl
 ·rw[aS];exact hr
 ·rw[aI (by decide)] at hl;rw[aJ (by decide)];exact h.f24 hl
 rw[aI (by decide),h25] at hl;cases hl
theorem EJ.s24 (h:EJ W0 E k m xs ys l vs w) (h25:l 25=false) {q:Option Addr} {d:Nat} (hq:0<m->∃ b off,q=some ⟨b,off,none⟩/\∀ j u,ys[j]?=some u->W0.cell? ⟨b,off+j,none⟩=some u):EJ W0 E k m xs ys (upB l 24) (upV vs 24 (.slice q m d)) w:=by
 refine⟨h.bl,fun j a b c hl=>?_,fun h1 h2=>?_,fun hl=>?_,fun hl=>?_⟩
 ·rw[aJ b];rw[aI b] at hl;exact h.ev j a b c hl
 ·rw[aI (by decide)] at h1;rw[aJ (by decide)];exact h.f14 h1 h25
 ·exact⟨q,d,aS,hq⟩
 rw[aI (by decide),h25] at hl;cases hl
theorem EJ.s25 (h:EJ W0 E k m xs ys l vs w) (h14:HRow w W0.heap.size 99 2 (vs 14) k xs) {v:Value} (hr:HRow w' W0.heap.size 99 2 v (k+m) (xs++ys)) (hg:w.grownBy w' (vs 14).ownBlock):EJ W0 E k m xs ys (upB l 25) (upV vs 25 v) w':=by
 refine⟨h.bl.trans ⟨hg.os,hg.tape,hg.output,hg.size,fun q hq=>hg.block q (Nat.lt_of_lt_of_le hq h.bl.size) (fun e=>by have:=(HRow.lt h14 q e.symm).1;omega)⟩,fun j a b c hl=>?_,fun h1 h2=>?_,fun hl=>?_,fun hl=>?_⟩
 ·rw[aJ c];rw[aI c] at hl;exact h.ev j a b c hl
 ·rw[bW] at h2;cases h2
 ·rw[aI (by decide)] at hl;rw[aJ (by decide)];exact h.f24 hl
 rw[aS];exact hr
end
section
variable {W:World} {b:Nat} {ts:List T} {tt:List RT} {i:NI} {O:Nat->Nat} {t:Nat} {y:RT}
theorem aFh (h:DbN W b ts tt i O) (ht:t<ts.length) (hy:tt[t]?=some y) (hl:y.A.length<=100000) {x:Int} (hno:∀ a∈y.A,a.1≠x):Calls Tryz.prog 40 #[.pointer (some ⟨b,0,none⟩),.int .i64 (t:Int),.int .i64 x] W fun e w'=>e=.returned (.bool false)/\w'=W:=by
 have hat:=rF h ht hy hl x;rw[nB (fun j hj=>hno _ (List.getElem_mem hj))] at hat;clear h hno hy ht;go_enter Tryz.func40,Tryz.ntmps40;go_wp2_with (go_at_call 75;(with_reducible refine hat.mono ?_);rintro e w2 ⟨rfl,hw⟩;subst w2;clear hat);go_ret;exact⟨rfl,rfl⟩
theorem aCX (h:DbN W b ts tt i O) (ht:t<ts.length) (hy:tt[t]?=some y) (hl:y.A.length<=100000) {k:Nat} (hk:k<y.A.length):Calls Tryz.prog 40 #[.pointer (some ⟨b,0,none⟩),.int .i64 (t:Int),.int .i64 y.A[k].1] W fun e w'=>e=.returned (.bool true)/\∃ x O',DbN w' b ts (tt.set t x) i O'/\x.nx=y.nx/\x.A=without y.A y.A[k].1/\Ext W O O'/\Tn (fun q=>O q≠0) W w':=by
 have hat:=rF h ht hy hl y.A[k].1;have hx0:=h.ok ht hy;rw[nC hk rfl (fun j hj hjk=>Int.ne_of_lt (List.pairwise_iff_getElem.1 hx0.srt j k hj hk hjk))] at hat;obtain⟨⟨gs,cs,go,co,gn,cn,pc,kc,pd,kd0⟩,_,o1,_,og3,_,_,hR⟩:=h.reads ht hy;have hR:=hR W (Below.refl _ _);obtain⟨mt',hmt⟩:∃ m,ts.length=m:=⟨_,rfl⟩;have hti:(t:Int)<(mt':Int):=(by omega);have htn:t<mt':=(by omega);obtain⟨x,hx⟩:∃ x,y.A[k].1=x:=⟨_,rfl⟩;obtain⟨n,hn⟩:∃ n,y.A.length=n:=⟨_,rfl⟩;obtain⟨gr,cr,hrv,hnc,hcm⟩:=hx0.rows.slice (by omega);have o1:i.ov=.slice (some ⟨go,0,none⟩) ts.length co:=o1;have o2:go<W.heap.size:=hR.ol;have o3:W.cell? ⟨go,t,none⟩=some y.rv:=hR.o0;have o4:W.cell? ⟨b,1,none⟩=some (.slice (some ⟨go,0,none⟩) mt' co):=(by rw[<- hmt];exact hR.b1);have xl:=aC h.box;have hrw:=hx0.rows
 have hone:∀ u∈cellsR y.A y.vs,u.oneCell'=true:=xH y.A y.vs (fun v hv=>by
  obtain⟨j,hj,rfl⟩:=List.getElem_of_mem hv;obtain⟨p,c,e,_⟩:=(hx0.vals j (by rw[<- hx0.n];exact hj) hj).isslice;rw[e];rfl)
 have hlc:=xG hx0.n;rw[hrv] at o3 hrw;have hcell:∀ j u,(cellsR y.A y.vs)[j]?=some u->W.cell? ⟨gr,j,none⟩=some u:=(fun j u hj=>hrw.cell hj);have HD:=qAq (qBq h (qBq o1 (qBq hrv (qBq hrw (qBq hone (qBq hlc hcell))))));have HT:=qAq (qBq ht hy);rw[hx] at hat ⊢;rw[hn] at o3 hnc;have HN:=qAq (qBq hn (qBq hx hk));have hki:(k:Int)<(n:Int):=(by omega);have hkc:(k:Int)<=(cr:Int):=(by omega);have hnci:(n:Int)<=(cr:Int):=(by omega);have hcm2:(cr:Int)<=9223372036854775807:=(by unfold maxLen at hcm;omega);have hk2:(k:Int)<=100000:=(by omega);have hkn:¬ (k:Int)<0:=(by omega);have hn2:(n:Int)<=100000:=(by omega);have hk1:(0:Int)<=(k:Int)+1:=(by omega);have hk1n:(k:Int)+1<=(n:Int):=by omega
 have HX:Hid (∀ w,Below W.heap.size W w->w.cell? ⟨go,t,none⟩=some (.slice (some ⟨gr,0,none⟩) n cr)/\w.cell? ⟨b,1,none⟩=some (.slice (some ⟨go,0,none⟩) mt' co)/\b<w.heap.size/\go<w.heap.size):=qAq (fun w hg =>
  ⟨(World.cell?_of_block (w:=W) (hg.block go o2)).trans o3,(World.cell?_of_block (w:=W) (hg.block b xl)).trans o4,Nat.lt_of_lt_of_le xl hg.size,Nat.lt_of_lt_of_le o2 hg.size⟩)
 clear h hn hrw hone hlc hcell hrv o1 o2 o3 o4 xl hl hR hx0 hmt og3;go_enter Tryz.func40,Tryz.ntmps40;go_upto_region 4 with (go_at_call 75;(with_reducible refine hat.mono ?_);rintro e w2 ⟨rfl,hw⟩;subst w2;clear hat)
 refine Par.wp_region_par4 27 (EJ W (fun idx=>[(Value.pointer (some ⟨b,0,none⟩)),(Value.pointer (some ⟨b,0,none⟩)),(Value.pointer (some ⟨b,1,none⟩)),.slice (some ⟨go,0,none⟩) mt' co,(Value.int .i64 ((t:Int))),(Value.pointer (some ⟨b,0,none⟩)),(Value.pointer (some ⟨b,0,none⟩)),(Value.pointer (some ⟨b,1,none⟩)),.slice (some ⟨go,0,none⟩) mt' co,(Value.int .i64 ((t:Int))),(Value.pointer (some ⟨go,t,none⟩)),.slice (some ⟨gr,0,none⟩) n cr,(Value.int .i64 ((k:Int))),.slice (some ⟨gr,0,none⟩) k cr,undef,
  (Value.pointer (some ⟨b,0,none⟩)),(Value.pointer (some ⟨b,0,none⟩)),(Value.pointer (some ⟨b,1,none⟩)),.slice (some ⟨go,0,none⟩) mt' co,(Value.int .i64 ((t:Int))),(Value.pointer (some ⟨go,t,none⟩)),.slice (some ⟨gr,0,none⟩) n cr,(Value.int .i64 ((k:Int))),(Value.int .i64 ((k:Int)+1)),undef,undef,(Value.pointer (some ⟨go,t,none⟩))].getD idx undef) k (n-(k+1)) ((cellsR y.A y.vs).take (k*2)) ((cellsR y.A y.vs).drop ((k+1)*2))) ?AA ?hmA ?hBA ?hAA ?hJA ?hopA ?hTA
 case hmA=>kernel_rfl
 case hBA=>kernel_rfl
 case hAA =>
  intro vs;simp only[Par.putA,Par.dstAt,Act.put,qDq,qEq,qFq,qLq,qGq,qHq,qIq];rfl
 case hJA =>
  intro vs;exact⟨aF W,fun _ _ _ _ h=>(by cases h),fun h=>(by cases h),fun h=>(by cases h),fun h=>(by cases h)⟩
 case hopA =>
  simp only[qMq,List.take_zero,Par.GiveAllK,and_true];and_intros<;>intro l vs w hJ hl hd hcl
  ·have HJ:=qAq hJ;obtain⟨y1,y2,y3,y4⟩:=HX.out w hJ.bl;clear hJ hd hcl;simp only[Par.GivesW];go_simp;all_goals exact HJ.out.up 0 (by decide)
  ·have HJ:=qAq hJ;obtain⟨y1,y2,y3,y4⟩:=HX.out w hJ.bl;have d0:vs 0=(Value.pointer (some ⟨b,0,none⟩)):=hJ.ev 0 (by decide) (by decide) (by decide) (hd 0 (by kernel_rfl));clear hJ hd hcl;simp only[Par.GivesW,d0];go_simp;all_goals exact HJ.out.up 1 (by decide)
  ·have HJ:=qAq hJ;obtain⟨y1,y2,y3,y4⟩:=HX.out w hJ.bl;have d1:vs 1=(Value.pointer (some ⟨b,0,none⟩)):=hJ.ev 1 (by decide) (by decide) (by decide) (hd 1 (by kernel_rfl));clear hJ hd hcl;simp only[Par.GivesW,d1];go_simp;all_goals exact HJ.out.up 2 (by decide)
  ·have HJ:=qAq hJ;obtain⟨y1,y2,y3,y4⟩:=HX.out w hJ.bl;have d2:vs 2=(Value.pointer (some ⟨b,1,none⟩)):=hJ.ev 2 (by decide) (by decide) (by decide) (hd 2 (by kernel_rfl));clear hJ hd hcl;simp only[Par.GivesW,d2];go_simp;all_goals exact HJ.out.up 3 (by decide)
  ·have HJ:=qAq hJ;obtain⟨y1,y2,y3,y4⟩:=HX.out w hJ.bl;clear hJ hd hcl;simp only[Par.GivesW];go_simp;all_goals exact HJ.out.up 4 (by decide)
  ·have HJ:=qAq hJ;obtain⟨y1,y2,y3,y4⟩:=HX.out w hJ.bl;clear hJ hd hcl;simp only[Par.GivesW];go_simp;all_goals exact HJ.out.up 5 (by decide)
  ·have HJ:=qAq hJ;obtain⟨y1,y2,y3,y4⟩:=HX.out w hJ.bl;have d5:vs 5=(Value.pointer (some ⟨b,0,none⟩)):=hJ.ev 5 (by decide) (by decide) (by decide) (hd 5 (by kernel_rfl));clear hJ hd hcl;simp only[Par.GivesW,d5];go_simp;all_goals exact HJ.out.up 6 (by decide)
  ·have HJ:=qAq hJ;obtain⟨y1,y2,y3,y4⟩:=HX.out w hJ.bl;have d6:vs 6=(Value.pointer (some ⟨b,0,none⟩)):=hJ.ev 6 (by decide) (by decide) (by decide) (hd 6 (by kernel_rfl));clear hJ hd hcl;simp only[Par.GivesW,d6];go_simp;all_goals exact HJ.out.up 7 (by decide)
  ·have HJ:=qAq hJ;obtain⟨y1,y2,y3,y4⟩:=HX.out w hJ.bl;have d7:vs 7=(Value.pointer (some ⟨b,1,none⟩)):=hJ.ev 7 (by decide) (by decide) (by decide) (hd 7 (by kernel_rfl));clear hJ hd hcl;simp only[Par.GivesW,d7];go_simp;all_goals exact HJ.out.up 8 (by decide)
  ·have HJ:=qAq hJ;obtain⟨y1,y2,y3,y4⟩:=HX.out w hJ.bl;clear hJ hd hcl;simp only[Par.GivesW];go_simp;all_goals exact HJ.out.up 9 (by decide)
  ·have HJ:=qAq hJ;obtain⟨y1,y2,y3,y4⟩:=HX.out w hJ.bl;have d8:vs 8=.slice (some ⟨go,0,none⟩) mt' co:=hJ.ev 8 (by decide) (by decide) (by decide) (hd 8 (by kernel_rfl));have d9:vs 9=(Value.int .i64 ((t:Int))):=hJ.ev 9 (by decide) (by decide) (by decide) (hd 9 (by kernel_rfl));clear hJ hd hcl;simp only[Par.GivesW,d8,d9];go_simp;all_goals exact HJ.out.up 10 (by decide)
  ·have HJ:=qAq hJ;obtain⟨y1,y2,y3,y4⟩:=HX.out w hJ.bl;have d10:vs 10=(Value.pointer (some ⟨go,t,none⟩)):=hJ.ev 10 (by decide) (by decide) (by decide) (hd 10 (by kernel_rfl));clear hJ hd hcl;simp only[Par.GivesW,d10];go_simp;all_goals exact HJ.out.up 11 (by decide)
  ·have HJ:=qAq hJ;obtain⟨y1,y2,y3,y4⟩:=HX.out w hJ.bl;clear hJ hd hcl;simp only[Par.GivesW];go_simp;all_goals exact HJ.out.up 12 (by decide)
  ·have HJ:=qAq hJ;obtain⟨y1,y2,y3,y4⟩:=HX.out w hJ.bl;have d11:vs 11=.slice (some ⟨gr,0,none⟩) n cr:=hJ.ev 11 (by decide) (by decide) (by decide) (hd 11 (by kernel_rfl));have d12:vs 12=(Value.int .i64 ((k:Int))):=hJ.ev 12 (by decide) (by decide) (by decide) (hd 12 (by kernel_rfl));clear hJ hd hcl;simp only[Par.GivesW,d11,d12];go_simp;all_goals exact HJ.out.up 13 (by decide)
  ·have h25:l 25=false:=(by cases h:l 25 with|false=>rfl|true=>exact absurd (hcl 25 14 (by kernel_rfl) h) (by simp[hl]));have d13:vs 13=.slice (some ⟨gr,0,none⟩) k cr:=hJ.ev 13 (by decide) (by decide) (by decide) (hd 13 (by kernel_rfl));have hk:=HN.out.2.2;have hlc:=HD.out.2.2.2.2.2.1
   obtain⟨v',w6,hrun,hr6,hg6⟩:=tH w W.heap.size (HRow.nil (w:=w) (base:=W.heap.size)) (q:=some ⟨gr,0,none⟩) (m:=k) (d:=cr) (ys:=(cellsR y.A y.vs).take (k*2)) (by rw[List.length_take];omega) (fun _=>⟨gr,0,rfl,fun j u hj=>by
    rw[Nat.zero_add]
    have hj2:(cellsR y.A y.vs)[j]?=some u:=by
     rw[List.getElem?_take] at hj;split at hj
     ·exact hj
     cases hj
    have hc:=HD.out.2.2.2.2.2.2 j u hj2;exact (World.cell?_of_block (w:=W) (hJ.bl.block _ (World.block_lt_of_cell? _ _ hc))).trans hc⟩) (fun u hu=>HD.out.2.2.2.2.1 u (List.mem_of_mem_take hu)) (by omega) hJ.bl.size
   rw[Nat.zero_add,List.nil_append] at hr6;exact Par.gives_append rfl (.const (.slice none 0 0)) (.tmp 27) 92 92 rfl rfl d13 hrun (hJ.s14 h25 hr6 ⟨hg6.os,hg6.tape,hg6.output,hg6.size,fun q hq=>hg6.block q hq (by simp[Value.ownBlock])⟩)
  ·have HJ:=qAq hJ;obtain⟨y1,y2,y3,y4⟩:=HX.out w hJ.bl;clear hJ hd hcl;simp only[Par.GivesW];go_simp;all_goals exact HJ.out.up 15 (by decide)
  ·have HJ:=qAq hJ;obtain⟨y1,y2,y3,y4⟩:=HX.out w hJ.bl;have d15:vs 15=(Value.pointer (some ⟨b,0,none⟩)):=hJ.ev 15 (by decide) (by decide) (by decide) (hd 15 (by kernel_rfl));clear hJ hd hcl;simp only[Par.GivesW,d15];go_simp;all_goals exact HJ.out.up 16 (by decide)
  ·have HJ:=qAq hJ;obtain⟨y1,y2,y3,y4⟩:=HX.out w hJ.bl;have d16:vs 16=(Value.pointer (some ⟨b,0,none⟩)):=hJ.ev 16 (by decide) (by decide) (by decide) (hd 16 (by kernel_rfl));clear hJ hd hcl;simp only[Par.GivesW,d16];go_simp;all_goals exact HJ.out.up 17 (by decide)
  ·have HJ:=qAq hJ;obtain⟨y1,y2,y3,y4⟩:=HX.out w hJ.bl;have d17:vs 17=(Value.pointer (some ⟨b,1,none⟩)):=hJ.ev 17 (by decide) (by decide) (by decide) (hd 17 (by kernel_rfl));clear hJ hd hcl;simp only[Par.GivesW,d17];go_simp;all_goals exact HJ.out.up 18 (by decide)
  ·have HJ:=qAq hJ;obtain⟨y1,y2,y3,y4⟩:=HX.out w hJ.bl;clear hJ hd hcl;simp only[Par.GivesW];go_simp;all_goals exact HJ.out.up 19 (by decide)
  ·have HJ:=qAq hJ;obtain⟨y1,y2,y3,y4⟩:=HX.out w hJ.bl;have d18:vs 18=.slice (some ⟨go,0,none⟩) mt' co:=hJ.ev 18 (by decide) (by decide) (by decide) (hd 18 (by kernel_rfl));have d19:vs 19=(Value.int .i64 ((t:Int))):=hJ.ev 19 (by decide) (by decide) (by decide) (hd 19 (by kernel_rfl));clear hJ hd hcl;simp only[Par.GivesW,d18,d19];go_simp;all_goals exact HJ.out.up 20 (by decide)
  ·have HJ:=qAq hJ;obtain⟨y1,y2,y3,y4⟩:=HX.out w hJ.bl;have d20:vs 20=(Value.pointer (some ⟨go,t,none⟩)):=hJ.ev 20 (by decide) (by decide) (by decide) (hd 20 (by kernel_rfl));clear hJ hd hcl;simp only[Par.GivesW,d20];go_simp;all_goals exact HJ.out.up 21 (by decide)
  ·have HJ:=qAq hJ;obtain⟨y1,y2,y3,y4⟩:=HX.out w hJ.bl;clear hJ hd hcl;simp only[Par.GivesW];go_simp;all_goals exact HJ.out.up 22 (by decide)
  ·have HJ:=qAq hJ;obtain⟨y1,y2,y3,y4⟩:=HX.out w hJ.bl;have d22:vs 22=(Value.int .i64 ((k:Int))):=hJ.ev 22 (by decide) (by decide) (by decide) (hd 22 (by kernel_rfl));clear hJ hd hcl;simp only[Par.GivesW,d22];go_simp;have hw:IntKind.i64.wrap ((k:Int)+1)=(k:Int)+1:=(by rw[IntKind.wrap_i64];omega);rw[hw];exact HJ.out.up 23 (by decide)
  ·have h25:l 25=false:=(by cases h:l 25 with|false=>rfl|true=>exact absurd (hcl 25 24 (by kernel_rfl) h) (by simp[hl]));have d21:vs 21=.slice (some ⟨gr,0,none⟩) n cr:=hJ.ev 21 (by decide) (by decide) (by decide) (hd 21 (by kernel_rfl));have d23:vs 23=(Value.int .i64 ((k:Int)+1)):=hJ.ev 23 (by decide) (by decide) (by decide) (hd 23 (by kernel_rfl));have HJ:=qAq hJ;clear hJ hd hcl;simp only[Par.GivesW,d21,d23];go_simp;all_goals exact HJ.out.s24 h25 (fun hm=>⟨gr,(k+1)*2,if_neg (by omega),fun j u hj=>by rw[List.getElem?_drop] at hj;exact HD.out.2.2.2.2.2.2 _ u hj⟩)
  ·have h14:=hJ.f14 (hd 14 (by kernel_rfl)) hl;obtain⟨q,d,e24,hq⟩:=hJ.f24 (hd 24 (by kernel_rfl));have hlc:=HD.out.2.2.2.2.2.1;have hkl:=HN.out.2.2;have hnl:=HN.out.1
   obtain⟨v',w6,hrun,hr6,hg6⟩:=tH w W.heap.size h14 (q:=q) (m:=n-(k+1)) (d:=d) (ys:=(cellsR y.A y.vs).drop ((k+1)*2)) (by rw[List.length_drop];omega) (fun hm=>by
    obtain⟨b',off,e,hc⟩:=hq hm;exact⟨b',off,e,fun j u hj=>(World.cell?_of_block (w:=W) (hJ.bl.block _ (World.block_lt_of_cell? _ _ (hc j u hj)))).trans (hc j u hj)⟩) (fun u hu=>HD.out.2.2.2.2.1 u (List.mem_of_mem_drop hu)) (by omega) hJ.bl.size
   exact Par.gives_append rfl (.tmp 28) (.tmp 38) 92 92 rfl rfl e24 hrun (hJ.s25 h14 hr6 hg6)
  have HJ:=qAq hJ;obtain⟨y1,y2,y3,y4⟩:=HX.out w hJ.bl;have d3:vs 3=.slice (some ⟨go,0,none⟩) mt' co:=hJ.ev 3 (by decide) (by decide) (by decide) (hd 3 (by kernel_rfl));have d4:vs 4=(Value.int .i64 ((t:Int))):=hJ.ev 4 (by decide) (by decide) (by decide) (hd 4 (by kernel_rfl));clear hJ hd hcl;simp only[Par.GivesW,d3,d4];go_simp;all_goals exact HJ.out.up 26 (by decide)
 intro l vs w4 hl hJ;simp only[qNq,List.drop_zero];have d26:vs 26=(Value.pointer (some ⟨go,t,none⟩)):=hJ.ev 26 (by decide) (by decide) (by decide) (hl 26 (by decide));have r25:=hJ.f25 (hl 25 (by decide));obtain⟨x1,x2,x3,x4⟩:=HX.out w4 hJ.bl;have hlen:k+(n-(k+1))=y.A.length-1:=by have:=HN.out.1;have:=HN.out.2.2;omega
 have xf:w4.frozen? ⟨go,t,none⟩=false:=by
  have ho:=(HD.out.1.later hJ.bl).outer;rw[HD.out.2.1] at ho;exact ho.frozenAt t
 obtain⟨u25,hu25⟩:∃ u,vs 25=u:=⟨_,rfl⟩;rw[hu25] at r25;have hadd:=HD.out.1.delrow HT.out.1 HT.out.2 HD.out.2.1 HN.out.2.2 (hlen▸HRow.mono r25 (Nat.zero_le _)) hJ.bl (fun q hq=>(HRow.lt r25 q hq).1);obtain⟨p5,c5,e5,_,_⟩:=r25.isslice;rw[HN.out.2.1,e5] at hadd;rw[e5] at hu25;have HA:=qAq hadd;simp only[d26,hu25];clear hadd hJ hl r25 e5 d26 hu25 x2 hlen;go_wp2_with fail;go_ret;obtain⟨O',q1,q2,q3⟩:=HA.out;exact⟨rfl,_,O',q1,rfl,rfl,q2,q3⟩
end
