import Derived.Test.YtgbkmjnnlkgpnaaGreatZe27
import Derived.Test.YtgbkmjnnlkgpnaaGreatZe24
set_option maxHeartbeats 8000000
set_option maxRecDepth 100000
namespace Go.Proofs.YtgbkmjnnlkgpnaaGreat
open Go Go.RowKit Go.Proofs Co Co.S
section
variable {W w:World} {b:Nat} {ts:List T} {tt:List RT} {i:NI} {O:Nat->Nat} {t:Nat} {y:RT}
theorem DbN.delrow (h:DbN W b ts tt i O) (ht:t<ts.length) (hy:tt[t]?=some y) {go co:Nat} (ho:i.ov=.slice (some ⟨go,0,none⟩) ts.length co) {k:Nat} (hk:k<y.A.length) {rv:Value} (hr:HRow w 0 102 2 rv (y.A.length-1) ((aT y.A y.vs).take (k*2)++(aT y.A y.vs).drop ((k+1)*2)))
  (hb:Below W.heap.size W w) (hf:∀ q,rv.ownBlock=some q->W.heap.size<=q) :
  ∃ O',DbN (w.setCell ⟨go,t,none⟩ rv) b ts (tt.set t ⟨rv,y.nx,without y.A y.A[k].1,y.vs.eraseIdx k⟩) i O'/\Ext W O O'/\Tn (fun q=>O q≠0) W (w.setCell ⟨go,t,none⟩ rv):=by
 have hx:=h.ok ht hy;rw[qR hx.srt hk];have hk':k<y.vs.length:=(by rw[hx.n];exact hk);have hlo:O go=3:=h.o3 go (by rw[ho];rfl);have hgo:go<W.heap.size:=h.lt go (by rw[hlo];decide)
 have hout:HRow w 0 95 1 (.slice (some ⟨go,0,none⟩) ts.length co) ts.length (tt.map (·.rv)):=by
  have:=(h.later hb).outer
  rw[ho] at this;exact this
 obtain⟨s1,s2⟩:=hout.stored t rv;generalize w.setCell ⟨go,t,none⟩ rv=w2 at s1 s2 ⊢;have hz:W.heap.size<=w2.heap.size:=Nat.le_trans hb.size s2.size;have hother:∀ q,q<w.heap.size->q≠go->w2.heap[q]?=w.heap[q]?:=fun q hq hn=>s2.block q hq (fun e=>hn (by cases e;rfl))
 have hchg:Chg (fun q=>q=go) W w2:=⟨s2.os.trans hb.os,s2.tape.trans hb.tape,s2.output.trans hb.output,hz,fun q hq hn=>by
  rw[hother q (Nat.lt_of_lt_of_le hq hb.size) hn,hb.block q hq]⟩
 have htn:Tn (fun q=>q=go) W w2:=Tn.of_chg hchg (fun q _ hq=>.inl (by
  obtain⟨_,cur,hb⟩:=h.outer.block q (by rw[ho,hq];rfl);exact⟨cur,95,hb,rfl⟩))
 have hgl:∀ q,rv.ownBlock=some q->q<w.heap.size:=(fun q hq=>(HRow.lt hr q hq).2);have hvl:∀ k (hk:k<y.vs.length) q,y.vs[k].ownBlock=some q->q<W.heap.size:=(fun k hk q hq=>h.lt q (by rw[hx.ovs k hk q hq];omega));have hkeep:∀ q,O q=6+2*t->w2.heap[q]?=W.heap[q]?:=fun q hq=>hchg.block q (h.lt q (by omega)) (fun hS=>by rw[hS] at hq;omega)
 have hat:∀ j (hj:j<(y.vs.eraseIdx k).length),∃ m,∃ hm:m<y.vs.length,(y.vs.eraseIdx k)[j]=y.vs[m]/\(∀ (hA:j<(y.A.eraseIdx k).length),∃ hm':m<y.A.length,(y.A.eraseIdx k)[j]=y.A[m])/\m=if j<k then j else j+1:=fun j hj=>by
  have hlv:(y.vs.eraseIdx k).length=y.vs.length-1:=List.length_eraseIdx_of_lt hk';by_cases e:j<k
  ·refine⟨j,by omega,by rw[List.getElem_eraseIdx_of_lt _ e],fun hA=>⟨by omega,by rw[List.getElem_eraseIdx_of_lt _ e]⟩,by rw[if_pos e]⟩
  refine⟨j+1,by omega,by rw[List.getElem_eraseIdx_of_ge _ (by omega)],fun hA=>⟨by have:=hx.n;omega,by rw[List.getElem_eraseIdx_of_ge _ (by omega)]⟩,by rw[if_neg e]⟩
 have hE:∀ q,q<W.heap.size->(if q<W.heap.size then O q else if rv.ownBlock=some q then 5+2*t else 0)=O q:=(fun q hq=>if_pos hq);refine⟨fun q=>if q<W.heap.size then O q else if rv.ownBlock=some q then 5+2*t else 0,h.settab ht htn (fun q hq=>.inr (.inl (by rw[hq];exact hlo))) hE (fun q hq=>?_) ⟨?_,?_,fun j hj hj'=>?_,fun j m hj hm hne q hq=>?_,fun a ha=>hx.len a (List.mem_of_mem_eraseIdx ha),hx.srt.sublist (List.eraseIdx_sublist _ _),fun a ha=>hx.rng a (List.mem_of_mem_eraseIdx ha),fun q hq=>?_,fun j hj q hq=>?_⟩ (fun z hz=>by rw[hy] at hz;cases hz;rfl) ?_,hE,htn.mono (fun q _ hq=>by show O q≠0;rw[hq,hlo];decide)⟩
 ·have hq:(if q<W.heap.size then O q else if rv.ownBlock=some q then 5+2*t else 0)≠0:=hq;by_cases e1:q<W.heap.size
  ·omega
  rw[if_neg e1] at hq;by_cases e3:rv.ownBlock=some q
  ·exact Nat.lt_of_lt_of_le (hgl q e3) s2.size
  rw[if_neg e3] at hq;exact absurd rfl hq
 ·show HRow w2 0 102 2 rv (y.A.eraseIdx k).length (aT (y.A.eraseIdx k) (y.vs.eraseIdx k));rw[tF hx.n hk,List.length_eraseIdx_of_lt hk];exact hr.of (fun q hq=>hother q (hgl q hq) (fun e=>by have:=hf q hq;omega))
 ·show (y.vs.eraseIdx k).length=(y.A.eraseIdx k).length;rw[List.length_eraseIdx_of_lt hk,List.length_eraseIdx_of_lt hk',hx.n]
 ·obtain⟨m,hm,e1,e2,_⟩:=hat j hj';obtain⟨hm',e2⟩:=e2 hj;show HRow w2 0 42 3 ((y.vs.eraseIdx k)[j]) _ _;have e2':(y.A.eraseIdx k)[j]'hj=y.A[m]:=e2;rw[e1];show HRow w2 0 42 3 y.vs[m] ((y.A.eraseIdx k)[j]'hj).2.length (cells3 ((y.A.eraseIdx k)[j]'hj).2);rw[e2'];exact (hx.vals m hm' hm).of (fun q hq=>hkeep q (hx.ovs m hm q hq))
 ·obtain⟨a,ha,e1,_,e3⟩:=hat j hj;obtain⟨c,hc,e4,_,e5⟩:=hat m hm;have hq:(y.vs.eraseIdx k)[j].ownBlock=some q:=hq;show (y.vs.eraseIdx k)[m].ownBlock≠some q;rw[e1] at hq;rw[e4];refine hx.sep a c ha hc (fun e=>hne ?_) q hq;rw[e3,e5] at e;split at e <;> split at e <;> omega
 ·have hq:rv.ownBlock=some q:=hq;show (if q<W.heap.size then O q else if rv.ownBlock=some q then 5+2*t else 0)=5+2*t;rw[if_neg (by have:=hf q hq;omega),if_pos hq]
 ·obtain⟨m,hm,e1,_,_⟩:=hat j hj;have hq:(y.vs.eraseIdx k)[j].ownBlock=some q:=hq;rw[e1] at hq;show (if q<W.heap.size then O q else _)=6+2*t;rw[if_pos (hvl m hm q hq)];exact hx.ovs m hm q hq
 rw[pB,ho];exact s1
end
theorem vD (y:World) (base:Nat) {v:Value} {n:Nat} {xs:List Value} (hr:HRow y base 102 2 v n xs) {q:Option Addr} {m d:Nat} {ys:List Value} (hlen:ys.length=m*2) (hc:0<m->∃ b off,q=some ⟨b,off,none⟩/\∀ j u,ys[j]?=some u->y.cell? ⟨b,off+j,none⟩=some u) (h1:∀ u∈ys,u.oneCell'=true)
  (hnm:n+m<=1000000) (hb:base<=y.heap.size) :
  ∃ v' w',(Builtin.append_ #[95,95] 95 #[v,.slice q m d]).run Tryz.prog y=.ok v' w'/\HRow w' base 102 2 v' (n+m) (xs++ys)/\y.grownBy w' v.ownBlock:=by
 obtain⟨i0,hi0,hz0,hz1,hz2⟩:=info_parts aAy;obtain⟨p,c,rfl,hnc,_⟩:=hr.isslice;rcases Nat.eq_zero_or_pos m with rfl|hpos
 ·have:ys=[]:=List.eq_nil_of_length_eq_zero (by omega);subst this;exact⟨_,y,vA Tryz.underlying95 hi0 hnc,by rw[List.append_nil];exact hr,⟨rfl,rfl,rfl,Nat.le_refl _,fun _ _ _=>rfl⟩⟩
 obtain⟨b,off,rfl,hcell⟩:=hc hpos
 obtain⟨g,cap,w',h2,h3,h4,_⟩:=bC (P:=Tryz.prog) y base 95 95 102 i0 _ 2 32 Tryz.underlying95 hi0 hz0 hz1 hz2 rfl (by decide) hr ⟨b,off,none⟩ m d ys hlen (fun j u hj=>by
  rw[Addr.add_lit];exact hcell j u hj) h1 hpos (by unfold maxLen;omega) (by omega) hb
 exact⟨_,w',h2,h3,h4⟩
structure EJ (W0:World) (E:Nat->Value) (k m:Nat) (xs ys:List Value) (l:Nat->Bool) (vs:Nat->Value) (w:World):Prop where
 bl:Below W0.heap.size W0 w
 ev:∀ j,j≠14->j≠24->j≠25->l j=true->vs j=E j
 f14:l 14=true->l 25=false->HRow w W0.heap.size 102 2 (vs 14) k xs
 f24:l 24=true->∃ q d,vs 24=.slice q m d/\(0<m->∃ b off,q=some ⟨b,off,none⟩/\∀ j u,ys[j]?=some u->W0.cell? ⟨b,off+j,none⟩=some u)
 f25:l 25=true->HRow w W0.heap.size 102 2 (vs 25) (k+m) (xs++ys)
section
open Par
variable {W0 w w':World} {E:Nat->Value} {k m:Nat} {xs ys:List Value} {l:Nat->Bool} {vs:Nat->Value}
theorem EJ.up (h:EJ W0 E k m xs ys l vs w) (i:Nat) (hi:i≠14/\i≠24/\i≠25):EJ W0 E k m xs ys (upB l i) (upV vs i (E i)) w:=by
 have e:∀ j,j=14∨j=24∨j=25->upB l i j=l j/\upV vs i (E i) j=vs j:=(fun j hj=>⟨aG (by omega),aH (by omega)⟩);refine⟨h.bl,fun j a b c hl=>?_,fun h1 h2=>?_,fun hl=>?_,fun hl=>?_⟩
 ·by_cases e:j=i
  ·subst e;rw[bB]
  rw[aH e];rw[aG e] at hl;exact h.ev j a b c hl
 ·rw[(e 14 (by simp)).1] at h1;rw[(e 25 (by simp)).1] at h2;rw[(e 14 (by simp)).2];exact h.f14 h1 h2
 ·rw[(e 24 (by simp)).1] at hl;rw[(e 24 (by simp)).2];exact h.f24 hl
 rw[(e 25 (by simp)).1] at hl;rw[(e 25 (by simp)).2];exact h.f25 hl
theorem EJ.s14 (h:EJ W0 E k m xs ys l vs w) (h25:l 25=false) {v:Value} (hr:HRow w' W0.heap.size 102 2 v k xs) (hb:Below w.heap.size w w'):EJ W0 E k m xs ys (upB l 14) (upV vs 14 v) w':=by
 refine⟨aB h.bl hb,fun j a b c hl=>?_,fun h1 h2=>?_,fun hl=>?_,fun hl=>?_⟩
 ·rw[aH a];rw[aG a] at hl;exact h.ev j a b c hl
 ·rw[bB];exact hr
 ·rw[aG (by decide)] at hl;rw[aH (by decide)];exact h.f24 hl
 rw[aG (by decide),h25] at hl;cases hl
theorem EJ.s24 (h:EJ W0 E k m xs ys l vs w) (h25:l 25=false) {q:Option Addr} {d:Nat} (hq:0<m->∃ b off,q=some ⟨b,off,none⟩/\∀ j u,ys[j]?=some u->W0.cell? ⟨b,off+j,none⟩=some u):EJ W0 E k m xs ys (upB l 24) (upV vs 24 (.slice q m d)) w:=by
 refine⟨h.bl,fun j a b c hl=>?_,fun h1 h2=>?_,fun hl=>?_,fun hl=>?_⟩
 ·rw[aH b];rw[aG b] at hl;exact h.ev j a b c hl
 ·rw[aG (by decide)] at h1;rw[aH (by decide)];exact h.f14 h1 h25
 ·exact⟨q,d,bB,hq⟩
 rw[aG (by decide),h25] at hl;cases hl
theorem EJ.s25 (h:EJ W0 E k m xs ys l vs w) (h14:HRow w W0.heap.size 102 2 (vs 14) k xs) {v:Value} (hr:HRow w' W0.heap.size 102 2 v (k+m) (xs++ys)) (hg:w.grownBy w' (vs 14).ownBlock):EJ W0 E k m xs ys (upB l 25) (upV vs 25 v) w':=by
 refine⟨h.bl.trans ⟨hg.os,hg.tape,hg.output,hg.size,fun q hq=>hg.block q (Nat.lt_of_lt_of_le hq h.bl.size) (fun e=>by have:=(HRow.lt h14 q e.symm).1;omega)⟩,fun j a b c hl=>?_,fun h1 h2=>?_,fun hl=>?_,fun hl=>?_⟩
 ·rw[aH c];rw[aG c] at hl;exact h.ev j a b c hl
 ·rw[dJ] at h2;cases h2
 ·rw[aG (by decide)] at hl;rw[aH (by decide)];exact h.f24 hl
 rw[bB];exact hr
end
section
variable {W:World} {b:Nat} {ts:List T} {tt:List RT} {i:NI} {O:Nat->Nat} {t:Nat} {y:RT}
theorem aEZ (h:DbN W b ts tt i O) (ht:t<ts.length) (hy:tt[t]?=some y) (hl:y.A.length<=100000) {x:Int} (hno:∀ a∈y.A,a.1≠x):Calls Tryz.prog 38 #[.pointer (some ⟨b,0,none⟩),.int .i64 (t:Int),.int .i64 x] W fun e w'=>e=.returned (.bool false)/\w'=W:=by
 have hat:=tG h ht hy hl x;rw[pC (fun j hj=>hno _ (List.getElem_mem hj))] at hat;clear h hno hy ht;go_enter Tryz.func38,Tryz.ntmps38;go_wp2_with (go_at_call 66;(with_reducible refine hat.mono ?_);rintro e w2 ⟨rfl,hw⟩;subst w2;clear hat);go_ret;exact⟨rfl,rfl⟩
theorem aDc (h:DbN W b ts tt i O) (ht:t<ts.length) (hy:tt[t]?=some y) (hl:y.A.length<=100000) {k:Nat} (hk:k<y.A.length):Calls Tryz.prog 38 #[.pointer (some ⟨b,0,none⟩),.int .i64 (t:Int),.int .i64 y.A[k].1] W fun e w'=>e=.returned (.bool true)/\∃ x O',DbN w' b ts (tt.set t x) i O'/\x.nx=y.nx/\x.A=without y.A y.A[k].1/\Ext W O O'/\Tn (fun q=>O q≠0) W w':=by
 have hat:=tG h ht hy hl y.A[k].1;have hx0:=h.ok ht hy;rw[pD hk rfl (fun j hj hjk=>Int.ne_of_lt (List.pairwise_iff_getElem.1 hx0.srt j k hj hk hjk))] at hat;obtain⟨⟨gs,cs,go,co,gn,cn,pc,kc,pd,kd0⟩,_,o1,_,og3,_,_,hR⟩:=h.reads ht hy;have hR:=hR W (Below.refl _ _);obtain⟨mt',hmt⟩:∃ m,ts.length=m:=⟨_,rfl⟩;have hti:(t:Int)<(mt':Int):=(by omega);have htn:t<mt':=(by omega);obtain⟨x,hx⟩:∃ x,y.A[k].1=x:=⟨_,rfl⟩;obtain⟨n,hn⟩:∃ n,y.A.length=n:=⟨_,rfl⟩;obtain⟨gr,cr,hrv,hnc,hcm⟩:=hx0.rows.slice (by omega);have o1:i.ov=.slice (some ⟨go,0,none⟩) ts.length co:=o1;have o2:go<W.heap.size:=hR.ol;have o3:W.cell? ⟨go,t,none⟩=some y.rv:=hR.o0;have o4:W.cell? ⟨b,1,none⟩=some (.slice (some ⟨go,0,none⟩) mt' co):=(by rw[<- hmt];exact hR.b1);have xl:=lt_of_heap h.box;have hrw:=hx0.rows
 have hone:∀ u∈aT y.A y.vs,u.oneCell'=true:=yK y.A y.vs (fun v hv=>by
  obtain⟨j,hj,rfl⟩:=List.getElem_of_mem hv;obtain⟨p,c,e,_⟩:=(hx0.vals j (by rw[<- hx0.n];exact hj) hj).isslice;rw[e];rfl)
 have hlc:=yJ hx0.n;rw[hrv] at o3 hrw;have hcell:∀ j u,(aT y.A y.vs)[j]?=some u->W.cell? ⟨gr,j,none⟩=some u:=(fun j u hj=>hrw.cell hj);have HD:=qAq (qBq h (qBq o1 (qBq hrv (qBq hrw (qBq hone (qBq hlc hcell))))));have HT:=qAq (qBq ht hy);rw[hx] at hat ⊢;rw[hn] at o3 hnc;have HN:=qAq (qBq hn (qBq hx hk));have hki:(k:Int)<(n:Int):=(by omega);have hkc:(k:Int)<=(cr:Int):=(by omega);have hnci:(n:Int)<=(cr:Int):=(by omega);have hcm2:(cr:Int)<=9223372036854775807:=(by unfold maxLen at hcm;omega);have hk2:(k:Int)<=100000:=(by omega);have hkn:¬ (k:Int)<0:=(by omega);have hn2:(n:Int)<=100000:=(by omega);have hk1:(0:Int)<=(k:Int)+1:=(by omega);have hk1n:(k:Int)+1<=(n:Int):=by omega
 have HX:Hid (∀ w,Below W.heap.size W w->w.cell? ⟨go,t,none⟩=some (.slice (some ⟨gr,0,none⟩) n cr)/\w.cell? ⟨b,1,none⟩=some (.slice (some ⟨go,0,none⟩) mt' co)/\b<w.heap.size/\go<w.heap.size):=qAq (fun w hg =>
  ⟨(World.cell?_of_block (w:=W) (hg.block go o2)).trans o3,(World.cell?_of_block (w:=W) (hg.block b xl)).trans o4,Nat.lt_of_lt_of_le xl hg.size,Nat.lt_of_lt_of_le o2 hg.size⟩)
 clear h hn hrw hone hlc hcell hrv o1 o2 o3 o4 xl hl hR hx0 hmt og3;go_enter Tryz.func38,Tryz.ntmps38;go_upto_region 4 with (go_at_call 66;(with_reducible refine hat.mono ?_);rintro e w2 ⟨rfl,hw⟩;subst w2;clear hat)
 refine Par.wp_region_par4 27 (EJ W (fun idx=>[(Value.pointer (some ⟨b,0,none⟩)),(Value.pointer (some ⟨b,0,none⟩)),(Value.pointer (some ⟨b,1,none⟩)),.slice (some ⟨go,0,none⟩) mt' co,(Value.int .i64 ((t:Int))),(Value.pointer (some ⟨b,0,none⟩)),(Value.pointer (some ⟨b,0,none⟩)),(Value.pointer (some ⟨b,1,none⟩)),.slice (some ⟨go,0,none⟩) mt' co,(Value.int .i64 ((t:Int))),(Value.pointer (some ⟨go,t,none⟩)),.slice (some ⟨gr,0,none⟩) n cr,(Value.int .i64 ((k:Int))),.slice (some ⟨gr,0,none⟩) k cr,undef,
  (Value.pointer (some ⟨b,0,none⟩)),(Value.pointer (some ⟨b,0,none⟩)),(Value.pointer (some ⟨b,1,none⟩)),.slice (some ⟨go,0,none⟩) mt' co,(Value.int .i64 ((t:Int))),(Value.pointer (some ⟨go,t,none⟩)),.slice (some ⟨gr,0,none⟩) n cr,(Value.int .i64 ((k:Int))),(Value.int .i64 ((k:Int)+1)),undef,undef,(Value.pointer (some ⟨go,t,none⟩))].getD idx undef) k (n-(k+1)) ((aT y.A y.vs).take (k*2)) ((aT y.A y.vs).drop ((k+1)*2))) ?AA ?hmA ?hBA ?hAA ?hJA ?hopA ?hTA
 case hmA=>kernel_rfl
 case hBA=>kernel_rfl
 case hAA =>
  intro vs;simp only[Par.putA,Par.dstAt,Act.put,qDq,qEq,qFq,qLq,qGq,qHq,qIq];rfl
 case hJA =>
  intro vs;exact⟨aE W,fun _ _ _ _ h=>(by cases h),fun h=>(by cases h),fun h=>(by cases h),fun h=>(by cases h)⟩
 case hopA =>
  simp only[qMq,List.take_zero,Par.GiveAllK,and_true];and_intros<;>intro l vs w hJ hl hd hcl
  ·have HJ:=qAq hJ;obtain⟨y1,y2,y3,y4⟩:=HX.out w hJ.bl;clear hJ hd hcl;simp only[Par.GivesW];go_simp;all_goals exact HJ.out.up 0 (by decide)
  ·have HJ:=qAq hJ;obtain⟨y1,y2,y3,y4⟩:=HX.out w hJ.bl;have d0:vs 0=(Value.pointer (some ⟨b,0,none⟩)):=hJ.ev 0 (by decide) (by decide) (by decide) (hd 0 (by kernel_rfl));clear hJ hd hcl;simp only[Par.GivesW,d0];go_simp;all_goals exact HJ.out.up 1 (by decide)
  ·have HJ:=qAq hJ;obtain⟨y1,y2,y3,y4⟩:=HX.out w hJ.bl;have d1:vs 1=(Value.pointer (some ⟨b,0,none⟩)):=hJ.ev 1 (by decide) (by decide) (by decide) (hd 1 (by kernel_rfl));clear hJ hd hcl;simp only[Par.GivesW,d1];go_simp;all_goals exact HJ.out.up 2 (by decide)
  ·have HJ:=qAq hJ;obtain⟨y1,y2,y3,y4⟩:=HX.out w hJ.bl;have d2:vs 2=(Value.pointer (some ⟨b,1,none⟩)):=hJ.ev 2 (by decide) (by decide) (by decide) (hd 2 (by kernel_rfl));clear hJ hd hcl;simp only[Par.GivesW,d2];go_simp;all_goals exact HJ.out.up 3 (by decide)
  ·have HJ:=qAq hJ;obtain⟨y1,y2,y3,y4⟩:=HX.out w hJ.bl;clear hJ hd hcl;simp only[Par.GivesW];go_simp;all_goals exact HJ.out.up 4 (by decide)
  ·have HJ:=qAq hJ;obtain⟨y1,y2,y3,y4⟩:=HX.out w hJ.bl;clear hJ hd hcl;simp only[Par.GivesW];go_simp;all_goals exact HJ.out.up 5 (by decide)
  ·have HJ:=qAq hJ;obtain⟨y1,y2,y3,y4⟩:=HX.out w hJ.bl;have d5:vs 5=(Value.pointer (some ⟨b,0,none⟩)):=hJ.ev 5 (by decide) (by decide) (by decide) (hd 5 (by kernel_rfl));clear hJ hd hcl;simp only[Par.GivesW,d5];go_simp;all_goals exact HJ.out.up 6 (by decide)
  ·have HJ:=qAq hJ;obtain⟨y1,y2,y3,y4⟩:=HX.out w hJ.bl;have d6:vs 6=(Value.pointer (some ⟨b,0,none⟩)):=hJ.ev 6 (by decide) (by decide) (by decide) (hd 6 (by kernel_rfl));clear hJ hd hcl;simp only[Par.GivesW,d6];go_simp;all_goals exact HJ.out.up 7 (by decide)
  ·have HJ:=qAq hJ;obtain⟨y1,y2,y3,y4⟩:=HX.out w hJ.bl;have d7:vs 7=(Value.pointer (some ⟨b,1,none⟩)):=hJ.ev 7 (by decide) (by decide) (by decide) (hd 7 (by kernel_rfl));clear hJ hd hcl;simp only[Par.GivesW,d7];go_simp;all_goals exact HJ.out.up 8 (by decide)
  ·have HJ:=qAq hJ;obtain⟨y1,y2,y3,y4⟩:=HX.out w hJ.bl;clear hJ hd hcl;simp only[Par.GivesW];go_simp;all_goals exact HJ.out.up 9 (by decide)
  ·have HJ:=qAq hJ;obtain⟨y1,y2,y3,y4⟩:=HX.out w hJ.bl;have d8:vs 8=.slice (some ⟨go,0,none⟩) mt' co:=hJ.ev 8 (by decide) (by decide) (by decide) (hd 8 (by kernel_rfl));have d9:vs 9=(Value.int .i64 ((t:Int))):=hJ.ev 9 (by decide) (by decide) (by decide) (hd 9 (by kernel_rfl));clear hJ hd hcl;simp only[Par.GivesW,d8,d9];go_simp;all_goals exact HJ.out.up 10 (by decide)
  ·have HJ:=qAq hJ;obtain⟨y1,y2,y3,y4⟩:=HX.out w hJ.bl;have d10:vs 10=(Value.pointer (some ⟨go,t,none⟩)):=hJ.ev 10 (by decide) (by decide) (by decide) (hd 10 (by kernel_rfl));clear hJ hd hcl;simp only[Par.GivesW,d10];go_simp;all_goals exact HJ.out.up 11 (by decide)
  ·have HJ:=qAq hJ;obtain⟨y1,y2,y3,y4⟩:=HX.out w hJ.bl;clear hJ hd hcl;simp only[Par.GivesW];go_simp;all_goals exact HJ.out.up 12 (by decide)
  ·have HJ:=qAq hJ;obtain⟨y1,y2,y3,y4⟩:=HX.out w hJ.bl;have d11:vs 11=.slice (some ⟨gr,0,none⟩) n cr:=hJ.ev 11 (by decide) (by decide) (by decide) (hd 11 (by kernel_rfl));have d12:vs 12=(Value.int .i64 ((k:Int))):=hJ.ev 12 (by decide) (by decide) (by decide) (hd 12 (by kernel_rfl));clear hJ hd hcl;simp only[Par.GivesW,d11,d12];go_simp;all_goals exact HJ.out.up 13 (by decide)
  ·have h25:l 25=false:=(by cases h:l 25 with|false=>rfl|true=>exact absurd (hcl 25 14 (by kernel_rfl) h) (by simp[hl]));have d13:vs 13=.slice (some ⟨gr,0,none⟩) k cr:=hJ.ev 13 (by decide) (by decide) (by decide) (hd 13 (by kernel_rfl));have hk:=HN.out.2.2;have hlc:=HD.out.2.2.2.2.2.1
   obtain⟨v',w6,hrun,hr6,hg6⟩:=vD w W.heap.size (HRow.nil (w:=w) (base:=W.heap.size)) (q:=some ⟨gr,0,none⟩) (m:=k) (d:=cr) (ys:=(aT y.A y.vs).take (k*2)) (by rw[List.length_take];omega) (fun _=>⟨gr,0,rfl,fun j u hj=>by
    rw[Nat.zero_add]
    have hj2:(aT y.A y.vs)[j]?=some u:=by
     rw[List.getElem?_take] at hj;split at hj
     ·exact hj
     cases hj
    have hc:=HD.out.2.2.2.2.2.2 j u hj2;exact (World.cell?_of_block (w:=W) (hJ.bl.block _ (World.block_lt_of_cell? _ _ hc))).trans hc⟩) (fun u hu=>HD.out.2.2.2.2.1 u (List.mem_of_mem_take hu)) (by omega) hJ.bl.size
   rw[Nat.zero_add,List.nil_append] at hr6;exact Par.gives_append rfl (.const (.slice none 0 0)) (.tmp 27) 95 95 rfl rfl d13 hrun (hJ.s14 h25 hr6 ⟨hg6.os,hg6.tape,hg6.output,hg6.size,fun q hq=>hg6.block q hq (by simp[Value.ownBlock])⟩)
  ·have HJ:=qAq hJ;obtain⟨y1,y2,y3,y4⟩:=HX.out w hJ.bl;clear hJ hd hcl;simp only[Par.GivesW];go_simp;all_goals exact HJ.out.up 15 (by decide)
  ·have HJ:=qAq hJ;obtain⟨y1,y2,y3,y4⟩:=HX.out w hJ.bl;have d15:vs 15=(Value.pointer (some ⟨b,0,none⟩)):=hJ.ev 15 (by decide) (by decide) (by decide) (hd 15 (by kernel_rfl));clear hJ hd hcl;simp only[Par.GivesW,d15];go_simp;all_goals exact HJ.out.up 16 (by decide)
  ·have HJ:=qAq hJ;obtain⟨y1,y2,y3,y4⟩:=HX.out w hJ.bl;have d16:vs 16=(Value.pointer (some ⟨b,0,none⟩)):=hJ.ev 16 (by decide) (by decide) (by decide) (hd 16 (by kernel_rfl));clear hJ hd hcl;simp only[Par.GivesW,d16];go_simp;all_goals exact HJ.out.up 17 (by decide)
  ·have HJ:=qAq hJ;obtain⟨y1,y2,y3,y4⟩:=HX.out w hJ.bl;have d17:vs 17=(Value.pointer (some ⟨b,1,none⟩)):=hJ.ev 17 (by decide) (by decide) (by decide) (hd 17 (by kernel_rfl));clear hJ hd hcl;simp only[Par.GivesW,d17];go_simp;all_goals exact HJ.out.up 18 (by decide)
  ·have HJ:=qAq hJ;obtain⟨y1,y2,y3,y4⟩:=HX.out w hJ.bl;clear hJ hd hcl;simp only[Par.GivesW];go_simp;all_goals exact HJ.out.up 19 (by decide)
  ·have HJ:=qAq hJ;obtain⟨y1,y2,y3,y4⟩:=HX.out w hJ.bl;have d18:vs 18=.slice (some ⟨go,0,none⟩) mt' co:=hJ.ev 18 (by decide) (by decide) (by decide) (hd 18 (by kernel_rfl));have d19:vs 19=(Value.int .i64 ((t:Int))):=hJ.ev 19 (by decide) (by decide) (by decide) (hd 19 (by kernel_rfl));clear hJ hd hcl;simp only[Par.GivesW,d18,d19];go_simp;all_goals exact HJ.out.up 20 (by decide)
  ·have HJ:=qAq hJ;obtain⟨y1,y2,y3,y4⟩:=HX.out w hJ.bl;have d20:vs 20=(Value.pointer (some ⟨go,t,none⟩)):=hJ.ev 20 (by decide) (by decide) (by decide) (hd 20 (by kernel_rfl));clear hJ hd hcl;simp only[Par.GivesW,d20];go_simp;all_goals exact HJ.out.up 21 (by decide)
  ·have HJ:=qAq hJ;obtain⟨y1,y2,y3,y4⟩:=HX.out w hJ.bl;clear hJ hd hcl;simp only[Par.GivesW];go_simp;all_goals exact HJ.out.up 22 (by decide)
  ·have HJ:=qAq hJ;obtain⟨y1,y2,y3,y4⟩:=HX.out w hJ.bl;have d22:vs 22=(Value.int .i64 ((k:Int))):=hJ.ev 22 (by decide) (by decide) (by decide) (hd 22 (by kernel_rfl));clear hJ hd hcl;simp only[Par.GivesW,d22];go_simp;have hw:IntKind.i64.wrap ((k:Int)+1)=(k:Int)+1:=(by rw[IntKind.wrap_i64];omega);rw[hw];exact HJ.out.up 23 (by decide)
  ·have h25:l 25=false:=(by cases h:l 25 with|false=>rfl|true=>exact absurd (hcl 25 24 (by kernel_rfl) h) (by simp[hl]));have d21:vs 21=.slice (some ⟨gr,0,none⟩) n cr:=hJ.ev 21 (by decide) (by decide) (by decide) (hd 21 (by kernel_rfl));have d23:vs 23=(Value.int .i64 ((k:Int)+1)):=hJ.ev 23 (by decide) (by decide) (by decide) (hd 23 (by kernel_rfl));have HJ:=qAq hJ;clear hJ hd hcl;simp only[Par.GivesW,d21,d23];go_simp;all_goals exact HJ.out.s24 h25 (fun hm=>⟨gr,(k+1)*2,if_neg (by omega),fun j u hj=>by rw[List.getElem?_drop] at hj;exact HD.out.2.2.2.2.2.2 _ u hj⟩)
  ·have h14:=hJ.f14 (hd 14 (by kernel_rfl)) hl;obtain⟨q,d,e24,hq⟩:=hJ.f24 (hd 24 (by kernel_rfl));have hlc:=HD.out.2.2.2.2.2.1;have hkl:=HN.out.2.2;have hnl:=HN.out.1
   obtain⟨v',w6,hrun,hr6,hg6⟩:=vD w W.heap.size h14 (q:=q) (m:=n-(k+1)) (d:=d) (ys:=(aT y.A y.vs).drop ((k+1)*2)) (by rw[List.length_drop];omega) (fun hm=>by
    obtain⟨b',off,e,hc⟩:=hq hm;exact⟨b',off,e,fun j u hj=>(World.cell?_of_block (w:=W) (hJ.bl.block _ (World.block_lt_of_cell? _ _ (hc j u hj)))).trans (hc j u hj)⟩) (fun u hu=>HD.out.2.2.2.2.1 u (List.mem_of_mem_drop hu)) (by omega) hJ.bl.size
   exact Par.gives_append rfl (.tmp 28) (.tmp 38) 95 95 rfl rfl e24 hrun (hJ.s25 h14 hr6 hg6)
  have HJ:=qAq hJ;obtain⟨y1,y2,y3,y4⟩:=HX.out w hJ.bl;have d3:vs 3=.slice (some ⟨go,0,none⟩) mt' co:=hJ.ev 3 (by decide) (by decide) (by decide) (hd 3 (by kernel_rfl));have d4:vs 4=(Value.int .i64 ((t:Int))):=hJ.ev 4 (by decide) (by decide) (by decide) (hd 4 (by kernel_rfl));clear hJ hd hcl;simp only[Par.GivesW,d3,d4];go_simp;all_goals exact HJ.out.up 26 (by decide)
 intro l vs w4 hl hJ;simp only[qNq,List.drop_zero];have d26:vs 26=(Value.pointer (some ⟨go,t,none⟩)):=hJ.ev 26 (by decide) (by decide) (by decide) (hl 26 (by decide));have r25:=hJ.f25 (hl 25 (by decide));obtain⟨x1,x2,x3,x4⟩:=HX.out w4 hJ.bl;have hlen:k+(n-(k+1))=y.A.length-1:=by have:=HN.out.1;have:=HN.out.2.2;omega
 have xf:w4.frozen? ⟨go,t,none⟩=false:=by
  have ho:=(HD.out.1.later hJ.bl).outer;rw[HD.out.2.1] at ho;exact ho.frozenAt t
 obtain⟨u25,hu25⟩:∃ u,vs 25=u:=⟨_,rfl⟩;rw[hu25] at r25;have hadd:=HD.out.1.delrow HT.out.1 HT.out.2 HD.out.2.1 HN.out.2.2 (hlen▸HRow.mono r25 (Nat.zero_le _)) hJ.bl (fun q hq=>(HRow.lt r25 q hq).1);obtain⟨p5,c5,e5,_,_⟩:=r25.isslice;rw[HN.out.2.1,e5] at hadd;rw[e5] at hu25;have HA:=qAq hadd;simp only[d26,hu25];clear hadd hJ hl r25 e5 d26 hu25 x2 hlen;go_wp2_with fail;go_ret;obtain⟨O',q1,q2,q3⟩:=HA.out;exact⟨rfl,_,O',q1,rfl,rfl,q2,q3⟩
end
section
variable {A:List R1}
theorem rJ (hs:A.Pairwise (fun a b=>a.1<b.1)) (x:Int):(atP A x=-1/\∀ a∈A,a.1≠x)∨∃ k,∃ hk:k<A.length,atP A x=(k:Int)/\A[k].1=x:=by
 by_cases h:∃ k,∃ hk:k<A.length,A[k].1=x
 ·obtain⟨k,hk,h1⟩:=h;refine .inr ⟨k,hk,pD hk h1 (fun j hj hjk e=>?_),h1⟩
  have:=tD hs hj hk (e.trans h1.symm)
  omega
 refine .inl ⟨pC (fun j hj e=>h ⟨j,hj,e⟩),fun a ha e=>?_⟩;obtain⟨j,hj,rfl⟩:=List.getElem_of_mem ha;exact h ⟨j,hj,e⟩
theorem aFa {x:Int} {j:Nat} {v:T3} {k:Nat} (hk:k<A.length) (hk':k<(dU A x j v).length):(dU A x j v)[k]=if A[k].1=x then (A[k].1,A[k].2.set j v) else A[k]:=by
 simp[dU]
theorem yL {A A':List R1} {vs:List Value} (h:A.map (·.1)=A'.map (·.1)):aT A vs=aT A' vs:=by
 unfold aT
 induction A generalizing A' vs with
 | nil =>
  cases A' with
  | nil=>rfl
  | cons a A'=>cases h
 | cons a A ih =>
  cases A' with
  | nil=>cases h
  | cons a' A' =>
   simp only[List.map_cons,List.cons.injEq] at h;cases vs with
   | nil=>rfl
   | cons v vs =>
    simp only[List.zip_cons_cons,List.flatMap_cons];rw[ih h.2,h.1]
end
section
variable {W w:World} {b:Nat} {ts:List T} {tt:List RT} {i:NI} {O:Nat->Nat} {t:Nat} {y:RT}
theorem vE {x:RT} (hy:tt[t]?=some y) (hx:x.rv=y.rv):(tt.set t x).map (·.rv)=tt.map (·.rv):=by
 refine List.ext_getElem? (fun k=>?_);rw[List.getElem?_map,List.getElem?_map,List.getElem?_set];by_cases e:t=k
 ·subst e;rw[if_pos rfl,if_pos (List.getElem?_eq_some_iff.1 hy).1,hy];simp only[Option.map_some];rw[hx]
 rw[if_neg e]
theorem DbN.setval (h:DbN W b ts tt i O) (ht:t<ts.length) (hy:tt[t]?=some y) {k:Nat} (hk:k<y.A.length) {j:Nat} (hj:j<ts[t].cols.length) {gv cv:Nat} (hv:∀ hk':k<y.vs.length,y.vs[k]=.slice (some ⟨gv,0,none⟩) ts[t].cols.length cv) (kd n1:Int) (s:ByteArray) :
  DbN (((W.setCell ⟨gv,j*3,none⟩ (.int .i64 kd)).setCell ⟨gv,j*3+1,none⟩ (.int .i64 n1)).setCell ⟨gv,j*3+2,none⟩ (.string s)) b ts (tt.set t { y with A:=dU y.A y.A[k].1 j (kd,n1,s) }) i O /\
   Tn (fun q=>O q≠0) W (((W.setCell ⟨gv,j*3,none⟩ (.int .i64 kd)).setCell ⟨gv,j*3+1,none⟩ (.int .i64 n1)).setCell ⟨gv,j*3+2,none⟩ (.string s)):=by
 have hx:=h.ok ht hy;have hk':k<y.vs.length:=(by rw[hx.n];exact hk);have hv:=hv hk';have hl:=hx.len _ (List.getElem_mem hk);have hr:=hx.vals k hk hk';rw[hv,hl] at hr;obtain⟨h1,h2⟩:=sK hr hl j hj kd n1 s;have hg:O gv=6+2*t:=hx.ovs k hk' gv (by rw[hv];rfl)
 have hty:Ty W gv:=by
  obtain⟨_,cur,hb⟩:=hr.block gv rfl;exact⟨cur,42,hb,rfl⟩
 generalize ((W.setCell ⟨gv,j*3,none⟩ (.int .i64 kd)).setCell ⟨gv,j*3+1,none⟩ (.int .i64 n1)).setCell ⟨gv,j*3+2,none⟩ (.string s)=w at h1 h2 ⊢;have hchg:Chg (fun q=>q=gv) W w:=⟨h2.os,h2.tape,h2.output,h2.size,fun q hq hn=>h2.block q hq (fun e=>hn (by cases e;rfl))⟩;have htn:Tn (fun q=>q=gv) W w:=Tn.of_chg hchg (fun q _ hq=>.inl (hq▸hty));have hb:∀ q,q<W.heap.size->q≠gv->w.heap[q]?=W.heap[q]?:=(fun q hq hn=>hchg.block q hq hn);have hids:(dU y.A y.A[k].1 j (kd,n1,s)).map (·.1)=y.A.map (·.1):=uV _ _ _ _;have hll:(dU y.A y.A[k].1 j (kd,n1,s)).length=y.A.length:=oU _ _ _ _;have hrow:HRow w 0 102 2 y.rv y.A.length (aT y.A y.vs):=hx.rows.of (fun q hq=>hb q (HRow.lt hx.rows q hq).2 (fun e=>by have:=hx.orv q hq;rw[e,hg] at this;omega));refine⟨h.settab ht htn (fun q hq=>.inr (.inr (.inr (by rw[hq];exact hg)))) (fun _ _=>rfl) (fun q hq=>Nat.lt_of_lt_of_le (h.lt q hq) h2.size) ⟨?_,hx.n.trans hll.symm,fun m hm hm'=>?_,hx.sep,fun a ha=>?_,?_,fun a ha=>?_,hx.orv,hx.ovs⟩ (fun z hz=>by rw[hy] at hz;cases hz;rfl) ?_,htn.mono (fun q _ hq=>by show O q≠0;rw[hq,hg];omega)⟩
 ·show HRow w 0 102 2 y.rv (dU y.A y.A[k].1 j (kd,n1,s)).length (aT (dU y.A y.A[k].1 j (kd,n1,s)) y.vs);rw[hll,yL hids];exact hrow
 ·have hm:m<y.A.length:=(by have hm:m<(dU y.A y.A[k].1 j (kd,n1,s)).length:=hm;rwa [hll] at hm);have hm':m<y.vs.length:=hm';have e:=aFa (x:=y.A[k].1) (j:=j) (v:=(kd,n1,s)) hm (by rw[hll];exact hm);show HRow w 0 42 3 y.vs[m] ((dU y.A y.A[k].1 j (kd,n1,s))[m]'(by rw[hll];exact hm)).2.length (cells3 ((dU y.A y.A[k].1 j (kd,n1,s))[m]'(by rw[hll];exact hm)).2);rw[e];by_cases hmk:m=k
  ·subst hmk;rw[if_pos rfl];show HRow w 0 42 3 y.vs[m] (y.A[m].2.set j (kd,n1,s)).length (cells3 (y.A[m].2.set j (kd,n1,s)));rw[List.length_set,hl,hv];exact h1
  rw[if_neg (fun e2=>hmk (tD hx.srt hm hk e2))];refine (hx.vals m hm hm').of (fun q hq=>hb q (HRow.lt (hx.vals m hm hm') q hq).2 (fun e3=>?_));subst e3;exact hx.sep m k hm' hk' hmk q hq (by rw[hv];rfl)
 ·have ha:a∈dU y.A y.A[k].1 j (kd,n1,s):=ha;unfold dU at ha;obtain⟨a0,ha0,rfl⟩:=List.mem_map.1 ha;by_cases e:a0.1=y.A[k].1
  ·rw[if_pos e];show (a0.2.set j _).length=_;rw[List.length_set];exact hx.len a0 ha0
  rw[if_neg e];exact hx.len a0 ha0
 ·have:=hx.srt
  show (dU y.A y.A[k].1 j (kd,n1,s)).Pairwise _;rw[<- List.pairwise_map (f:=fun a:R1=>a.1) (R:=fun a b=>a<b)] at this ⊢;rw[hids];exact this
 ·have ha:a∈dU y.A y.A[k].1 j (kd,n1,s):=ha;unfold dU at ha;obtain⟨a0,ha0,rfl⟩:=List.mem_map.1 ha
  have:=hx.rng a0 ha0
  by_cases e:a0.1=y.A[k].1
  ·rw[if_pos e];exact this
  rw[if_neg e];exact this
 have e:=vE (x:={ y with A:=dU y.A y.A[k].1 j (kd,n1,s) }) hy rfl;rw[e];exact h.outer.of (fun q hq=>hb q (HRow.lt h.outer q hq).2 (fun e=>by have:=h.o3 q hq;rw[e,hg] at this;omega))
theorem aDd {tt:List RT} {t:Nat} {y:RT} (hy:tt[t]?=some y):tt.set t y=tt:=by
 refine List.ext_getElem? (fun k=>?_);rw[List.getElem?_set];by_cases e:t=k
 ·subst e;rw[if_pos rfl,if_pos (List.getElem?_eq_some_iff.1 hy).1,hy]
 rw[if_neg e]
theorem aDe (h:DbN W b ts tt i O) (ht:t<ts.length) (hy:tt[t]?=some y) (hl:y.A.length<=100000) (hc0:0<ts[t].cols.length) (x:Int) (z:ByteArray) (kd n1:Int) (s:ByteArray) (hs:s.size<=maxLen) :
  Calls Tryz.prog 40 #[.pointer (some ⟨b,0,none⟩),.int .i64 (t:Int),.int .i64 x,.string z,.agg #[.int .i64 (kd),.int .i64 (n1),.string (s)]] W fun e w'=>e=.returned (.int .i64 (gQ ts[t] y.A x z (kd,n1,s)))/\∃ x1,DbN w' b ts (tt.set t x1) i O/\x1.nx=y.nx/\x1.A=(if gQ ts[t] y.A x z (kd,n1,s)=0 then dU y.A x (ixC ts[t].cols z).toNat (kd,n1,s) else y.A)/\Tn (fun q=>O q≠0) W w':=by
 have hb1:=aC W (.cells #[.int .i64 kd,.int .i64 n1,.string s] 42);have k1:=qOq W (.cells #[.int .i64 kd,.int .i64 n1,.string s] 42);obtain⟨w1,hw1⟩:∃ w1,W.alloc (.cells #[.int .i64 kd,.int .i64 n1,.string s] 42)=w1:=⟨_,rfl⟩;obtain⟨B,hB⟩:∃ B,W.heap.size=B:=⟨_,rfl⟩;rw[hw1] at hb1 k1;rw[hB] at k1;have h1:=h.later hb1;have hss:=aDd hy;have hat:=tG h1 ht hy hl x;have HW:=qAq (qBq hw1 hB);have H1:=qAq (qBq h1 (qBq k1 (qBq hb1 hss)));have hsrt:=(h.ok ht hy).srt
 have hA:y.A.any (fun a=>decide (a.1=x))=decide (¬ atP y.A x=-1):=by
  rcases rJ hsrt x with ⟨e1,e2⟩ | ⟨k,hk,e1,e2⟩
  ·rw[e1,List.any_eq_false.2 (fun a ha=>by simp[e2 a ha])];rfl
  rw[e1,List.any_eq_true.2 ⟨y.A[k],List.getElem_mem hk,by simp[e2]⟩]
  symm;rw[decide_eq_true_iff];omega
 unfold gQ;rw[hA];rcases rJ hsrt x with ⟨e1,e2⟩ | ⟨k,hk,e1,e2⟩
 ·rw[e1] at hat ⊢;simp only[not_true_eq_false,decide_false,Bool.false_eq_true,if_false];clear hb1 k1 hw1 hB h1 hA e1 e2 h hy hss;go_enter Tryz.func40,Tryz.ntmps40;go_upto_region 1 with fail;rw[HW.out.1,HW.out.2];go_wp2_with (go_at_call 66;(with_reducible refine hat.mono ?_);rintro e w2 ⟨rfl,hw⟩;subst w2;clear hat);go_ret;exact⟨rfl,y,by rw[H1.out.2.2.2];exact H1.out.1,rfl,rfl,Tn.of_below H1.out.2.2.1⟩
 rw[e1] at hat ⊢;have hne:decide (¬ (k:Int)=-1)=true:=decide_eq_true (by omega);rw[hne];simp only[reduceIte];obtain⟨⟨gs,cs,go,co,gn,cn,pc,kc,pd,kd'⟩,_,o1,_,_,_,_,hR⟩:=h1.reads ht hy;obtain⟨mt',hmt⟩:∃ m,ts.length=m:=⟨_,rfl⟩;have hti:(t:Int)<(mt':Int):=(by omega);have htn:t<mt':=(by omega);obtain⟨T0,hT0⟩:∃ T0,ts[t]'ht=T0:=⟨_,rfl⟩;have HT0:=qAq (qBq hT0 (qBq ht (qBq hy hmt)));simp only[hT0] at hR hc0 ⊢;have r0:=hR w1 (Below.refl _ _);have hcol:=cW (x:=z) r0.rt;have f7:w1.cell? ⟨b,0,none⟩=some (.slice (some ⟨gs,0,none⟩) mt' cs):=(by rw[<- hmt];exact r0.b0);have f3:=r0.s0;have f4:=r0.s1;have f5:=r0.s2;have f6:=r0.s3;have f2:=r0.sl;have xl:=r0.bl;have HX:Hid (∀ w,Below w1.heap.size w1 w->DbN w b ts tt i O/\w.heap[B]?=some (.cells #[.int .i64 kd,.int .i64 n1,.string s] 42)/\Below W.heap.size W w):=qAq (fun w hb=>⟨h1.later hb,aD hb k1,aB hb1 hb⟩);have hnk:¬ (k:Int)<0:=(by omega);rcases jL T0.cols z with hix|⟨j,hj,hix⟩
 ·rw[hix] at hcol ⊢;simp only[show ¬ (0:Int)<=-1 by decide,if_false,show ¬ (3:Int)=0 by decide];clear hb1 k1 hw1 hB h1 hA e1 e2 hne hmt hT0 h hy hss o1 hR r0;go_enter Tryz.func40,Tryz.ntmps40;go_upto_region 1 with fail;rw[HW.out.1,HW.out.2]
  go_wp2_with (first
   | (go_at_call 66;(with_reducible refine hat.mono ?_);rintro e w2 ⟨rfl,hw⟩;subst w2;clear hat)
   | (go_at_call 69;(with_reducible refine hcol.mono ?_);rintro e w3 ⟨rfl,hb3⟩;have H3:=HX.out w3 hb3;clear hcol))
  go_ret;exact⟨rfl,y,by rw[H1.out.2.2.2];exact H3.1,rfl,rfl,Tn.of_below H3.2.2⟩
 rw[hix] at hcol ⊢
 have hcj:(T0.cols[(j:Int).toNat]?).getD ⟨e0,0,false,e0⟩=T0.cols[j]:=by
  rw[Int.toNat_natCast,qQq hj];rfl
 simp only[show (0:Int)<=(j:Int) from Int.natCast_nonneg j,if_true,hcj];have hnj:¬ (j:Int)<0:=(by omega);obtain⟨cc,hcc⟩:∃ cc,T0.cols[j]=cc:=⟨_,rfl⟩;obtain⟨gc,oc,hpc,_,_⟩:=RdC.col r0.rd hj;have hpc:pc=some ⟨gc,oc,none⟩:=hpc
 have HC:Hid (∀ w,Below w1.heap.size w1 w->w.cell? ⟨gc,oc+j*4,none⟩=some (.string cc.nm)/\w.cell? ⟨gc,oc+j*4+1,none⟩=some (.int .i64 cc.kd)/\w.cell? ⟨gc,oc+j*4+2,none⟩=some (.bool cc.mu)/\w.cell? ⟨gc,oc+j*4+3,none⟩=some (.string cc.tgt)):=qAq (fun w hb=>by
  obtain⟨gc',oc',e,_,h2⟩:=RdC.col (hR w hb).rd hj;have e:pc=some ⟨gc',oc',none⟩:=e;rw[hpc] at e;cases e;rw[hcc] at h2;exact h2)
 have HF:Hid (∀ w,Below w1.heap.size w1 w->w.cell? ⟨gs,t*4+1,none⟩=some (.slice pc T0.cols.length kc)/\w.cell? ⟨b,0,none⟩=some (.slice (some ⟨gs,0,none⟩) mt' cs)/\b<w.heap.size/\gs<w.heap.size):=qAq (fun w hb=>by
  have k:=hR w hb;exact⟨k.s1,by rw[<- hmt];exact k.b0,k.bl,k.sl⟩)
 obtain⟨nc,hnc⟩:∃ n,T0.cols.length=n:=⟨_,rfl⟩;have htyp:=(fun w=>kT kd n1 s cc w hs);rw[hcc];rw[hpc] at HF f4 hcol;rw[hnc] at HF f4 hcol;have hji:(j:Int)<(nc:Int):=(by omega);have HN:=qAq (qBq hnc (qBq hcc hix));clear hb1 k1 hw1 hB hA hne hcj hcc hpc;cases hin:inC cc.kd (kd,n1,s)
 ·simp only[Bool.false_eq_true,if_false,show ¬ (4:Int)=0 by decide];rw[hin] at htyp;clear hin e1 e2 h1 h hy hss o1 hR r0 hmt hT0;go_enter Tryz.func40,Tryz.ntmps40;go_upto_region 1 with fail;rw[HW.out.1,HW.out.2]
  go_upto_region 7 with (first
   | (go_at_call 66;(with_reducible refine hat.mono ?_);rintro e w2 ⟨rfl,hw⟩;subst w2;clear hat)
   | (go_at_call 69;(with_reducible refine hcol.mono ?_);rintro e w3 ⟨rfl,hb3⟩;have H3:=qAq hb3;clear hcol hb3))
  refine Par.wp_region_par 12 [.agg #[.int .i64 (kd),.int .i64 (n1),.string (s)],.pointer (some ⟨b,0,none⟩),.pointer (some ⟨b,0,none⟩),.pointer (some ⟨b,0,none⟩),.slice (some ⟨gs,0,none⟩) mt' cs,.int .i64 ((t:Int)),.pointer (some ⟨gs,t*4,none⟩),.pointer (some ⟨gs,t*4+1,none⟩),.slice (some ⟨gc,oc,none⟩) nc kc,.int .i64 ((j:Int)),.pointer (some ⟨gc,oc+j*4,none⟩),.agg #[.string cc.nm,.int .i64 cc.kd,.bool cc.mu,.string cc.tgt]] (fun w=>Below w1.heap.size w1 w) ?A1 ?hm1 ?hB1 ?hA1 ((aB H3.out (aE w3))) ?hop1 ?hT1
  case hm1=>kernel_rfl
  case hB1=>kernel_rfl
  case hA1 =>
   simp only[Par.putA,Par.dstAt,Act.put,qDq,qEq,qFq,qLq,qGq,qHq,qIq,qJq,qKq];rfl
  case hop1 =>
   simp only[qMq,List.take_zero,Par.GiveAll,and_true];and_intros<;>intro w' hR<;>have HR:=qAq hR
   have x0:=aA (HX.out w' hR).2.1 0;have x1:=aA (HX.out w' hR).2.1 1;have x2:=aA (HX.out w' hR).2.1 2;rotate_left 2;have zl:=(HF.out w' hR).2.2.1;rotate_left;have zl:=(HF.out w' hR).2.2.1;rotate_left;have x0:=(HF.out w' hR).2.1;rotate_left 3;have zl:=(HF.out w' hR).2.2.2;rotate_left;have x0:=(HF.out w' hR).1;rotate_left 3;have x0:=(HC.out w' hR).1;have x1:=(HC.out w' hR).2.1;have x2:=(HC.out w' hR).2.2.1;have x3:=(HC.out w' hR).2.2.2;rotate_left
   all_goals(clear hR;simp only[Par.Gives];go_simp;all_goals exact HR.out)
  intro w' hR;simp only[qNq,List.drop_zero];have HR:=qAq hR;have htyp:=htyp w';clear hR;go_wp2_with (go_at_call 62;(with_reducible refine htyp.mono ?_);rintro e w4 ⟨rfl,hb4⟩;have H4:=qAq (HX.out w4 (HR.out.trans (hb4.mono HR.out.size)));clear htyp hb4);go_ret;exact⟨rfl,y,by rw[H1.out.2.2.2];exact H4.out.1,rfl,rfl,Tn.of_below H4.out.2.2⟩
 simp only[if_true];have hx1:=h1.ok ht hy;have hkv:k<y.vs.length:=(by rw[hx1.n];exact hk);have hlk:=hx1.len _ (List.getElem_mem hk);rw[hT0] at hlk;have hvr:=hx1.vals k hk hkv;rw[hlk] at hvr;obtain⟨gv,cv,r5,_,_⟩:=hvr.slice hc0;rw[r5] at hvr;obtain⟨gr,cr,r1,_,_⟩:=hx1.rows.slice (by omega);have hrr:=hx1.rows;rw[r1] at hrr;have r4:=hrr.cell (jN hx1.n hk).2;rw[r5] at r4;have r2:=(HRow.lt hrr gr rfl).2;have o4:w1.cell? ⟨b,1,none⟩=some (.slice (some ⟨go,0,none⟩) mt' co):=(by rw[<- hmt];exact r0.b1);have o3:w1.cell? ⟨go,t,none⟩=some y.rv:=r0.o0;have o2:go<w1.heap.size:=r0.ol;have HV:Hid (∀ hk':k<y.vs.length,y.vs[k]=.slice (some ⟨gv,0,none⟩) (ts[t]'ht).cols.length cv):=qAq (fun _=>by rw[hT0];exact r5);obtain⟨na,hna⟩:∃ n,y.A.length=n:=⟨_,rfl⟩;have hki:(k:Int)<(na:Int):=by omega
 have HO:Hid (∀ w,Below w1.heap.size w1 w->w.cell? ⟨b,1,none⟩=some (.slice (some ⟨go,0,none⟩) mt' co)/\w.cell? ⟨go,t,none⟩=some (.slice (some ⟨gr,0,none⟩) na cr)/\w.cell? ⟨gr,k*2+1,none⟩=some (.slice (some ⟨gv,0,none⟩) nc cv)/\b<w.heap.size/\go<w.heap.size/\gr<w.heap.size/\HRow w 0 42 3 (.slice (some ⟨gv,0,none⟩) nc cv) nc (cells3 y.A[k].2)):=qAq (fun w hb=>by
  have k0:=World.cell?_of_block (w:=w1) (a:=⟨b,1,none⟩) (hb.block b xl);have k2:=World.cell?_of_block (w:=w1) (a:=⟨go,t,none⟩) (hb.block go o2);have k3:=World.cell?_of_block (w:=w1) (a:=⟨gr,k*2+1,none⟩) (hb.block gr r2);rw[r1,hna] at o3;rw[HN.out.1] at r4 hvr;exact⟨k0.trans o4,k2.trans o3,k3.trans r4,Nat.lt_of_lt_of_le xl hb.size,Nat.lt_of_lt_of_le o2 hb.size,Nat.lt_of_lt_of_le r2 hb.size,hvr.later hb⟩)
 have hxl:(cells3 y.A[k].2).length=nc*3:=(by rw[gI,hlk,HN.out.1]);have H0:Hid ((cells3 y.A[k].2).length=nc*3):=qAq hxl;have HE:=qAq e2;rw[hin] at htyp;clear hin e1 e2 r1 r2 r4 r5 hvr hrr hlk hkv hx1 o1 o2 o3 o4 hxl hna h1 h hss hR r0 hmt hT0;go_enter Tryz.func40,Tryz.ntmps40;go_upto_region 1 with fail;rw[HW.out.1,HW.out.2]
 go_upto_region 7 with (first
  | (go_at_call 66;(with_reducible refine hat.mono ?_);rintro e w2 ⟨rfl,hw⟩;subst w2;clear hat)
  | (go_at_call 69;(with_reducible refine hcol.mono ?_);rintro e w3 ⟨rfl,hb3⟩;have H3:=qAq hb3;clear hcol hb3))
 refine Par.wp_region_par 12 [.agg #[.int .i64 (kd),.int .i64 (n1),.string (s)],.pointer (some ⟨b,0,none⟩),.pointer (some ⟨b,0,none⟩),.pointer (some ⟨b,0,none⟩),.slice (some ⟨gs,0,none⟩) mt' cs,.int .i64 ((t:Int)),.pointer (some ⟨gs,t*4,none⟩),.pointer (some ⟨gs,t*4+1,none⟩),.slice (some ⟨gc,oc,none⟩) nc kc,.int .i64 ((j:Int)),.pointer (some ⟨gc,oc+j*4,none⟩),.agg #[.string cc.nm,.int .i64 cc.kd,.bool cc.mu,.string cc.tgt]] (fun w=>Below w1.heap.size w1 w) ?A2 ?hm2 ?hB2 ?hA2 ((aB H3.out (aE w3))) ?hop2 ?hT2
 case hm2=>kernel_rfl
 case hB2=>kernel_rfl
 case hA2 =>
  simp only[Par.putA,Par.dstAt,Act.put,qDq,qEq,qFq,qLq,qGq,qHq,qIq,qJq,qKq];rfl
 case hop2 =>
  simp only[qMq,List.take_zero,Par.GiveAll,and_true];and_intros<;>intro w' hR<;>have HR:=qAq hR
  have x0:=aA (HX.out w' hR).2.1 0;have x1:=aA (HX.out w' hR).2.1 1;have x2:=aA (HX.out w' hR).2.1 2;rotate_left 2;have zl:=(HF.out w' hR).2.2.1;rotate_left;have zl:=(HF.out w' hR).2.2.1;rotate_left;have x0:=(HF.out w' hR).2.1;rotate_left 3;have zl:=(HF.out w' hR).2.2.2;rotate_left;have x0:=(HF.out w' hR).1;rotate_left 3;have x0:=(HC.out w' hR).1;have x1:=(HC.out w' hR).2.1;have x2:=(HC.out w' hR).2.2.1;have x3:=(HC.out w' hR).2.2.2;rotate_left
  all_goals(clear hR;simp only[Par.Gives];go_simp;all_goals exact HR.out)
 intro w' hR;simp only[qNq,List.drop_zero];have HR:=qAq hR;have htyp:=htyp w';clear hR;go_upto_region 9 with (go_at_call 62;(with_reducible refine htyp.mono ?_);rintro e w4 ⟨rfl,hb4⟩;have H4:=qAq (HR.out.trans (hb4.mono HR.out.size));clear htyp hb4);refine Par.wp_region_par 14 [.pointer (some ⟨b,0,none⟩),.pointer (some ⟨b,0,none⟩),.pointer (some ⟨b,1,none⟩),.slice (some ⟨go,0,none⟩) mt' co,.int .i64 ((t:Int)),.pointer (some ⟨go,t,none⟩),.slice (some ⟨gr,0,none⟩) na cr,.int .i64 ((k:Int)),.pointer (some ⟨gr,k*2,none⟩),.pointer (some ⟨gr,k*2+1,none⟩),.slice (some ⟨gv,0,none⟩) nc cv,.int .i64 ((j:Int)),.agg #[.int .i64 (kd),.int .i64 (n1),.string (s)],.pointer (some ⟨gv,j*3,none⟩)] (fun w=>Below w1.heap.size w1 w) ?A3 ?hm3 ?hB3 ?hA3 ((aB H4.out (aE w4))) ?hop3 ?hT3
 case hm3=>kernel_rfl
 case hB3=>kernel_rfl
 case hA3 =>
  simp only[Par.putA,Par.dstAt,Act.put,qDq,qEq,qFq,qLq,qGq,qHq,qIq,qJq,qKq];rfl
 case hop3 =>
  simp only[qMq,List.take_zero,Par.GiveAll,and_true];and_intros<;>intro w' hR<;>have HR:=qAq hR
  rotate_left;have zl:=(HF.out w' hR).2.2.1;rotate_left;have zl:=(HF.out w' hR).2.2.1;rotate_left;have x0:=(HO.out w' hR).1;rotate_left 3;have x0:=(HO.out w' hR).2.1;rotate_left 3;have zl:=(HO.out w' hR).2.2.2.2.2.1;rotate_left;have x0:=(HO.out w' hR).2.2.1;rotate_left 2;have x0:=aA (HX.out w' hR).2.1 0;have x1:=aA (HX.out w' hR).2.1 1;have x2:=aA (HX.out w' hR).2.1 2;rotate_left 2
  all_goals(clear hR;simp only[Par.Gives];go_simp;all_goals exact HR.out)
 intro w' hR;simp only[qNq,List.drop_zero];have HR2:=qAq hR;obtain⟨_,_,_,_,_,_,q7⟩:=HO.out _ hR;have y0:=q7.cell (j:=j*3) (qQq (by rw[H0.out];omega));have y1:=q7.cell (j:=j*3+1) (qQq (by rw[H0.out];omega));have y2:=q7.cell (j:=j*3+2) (qQq (by rw[H0.out];omega));have yf:=(fun m=>q7.frozenAt m);have yl:=(HRow.lt q7 gv rfl).2;clear hR q7;go_wp2_with fail;go_ret;obtain⟨d1,_,d3⟩:=HX.out _ HR2.out;obtain⟨z1,z2⟩:=d1.setval HT0.out.2.1 HT0.out.2.2.1 hk (j:=j) (show j<(ts[t]'HT0.out.2.1).cols.length by rw[HT0.out.1,HN.out.1];omega) HV.out kd n1 s;rw[HE.out] at z1;refine⟨rfl,_,z1,rfl,?_,(Tn.of_below (S:=fun _=>False) d3).trans z2 (fun _ _ h=>h.elim) (fun _ _ h=>h)⟩;rw[Int.toNat_natCast]
end
