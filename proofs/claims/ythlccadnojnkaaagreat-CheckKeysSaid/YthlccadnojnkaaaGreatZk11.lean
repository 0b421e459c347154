import Derived.Test.YthlccadnojnkaaaGreatZk10
import Derived.Deep.AppendLies
import Derived.Deep.RegionLaw
set_option maxHeartbeats 2000000
set_option maxRecDepth 100000
namespace Go.Proofs.YthlccadnojnkaaaGreat.Co.S
open Go Go.RowKit Go.Shelf Go.Proofs Go.Proofs.YthlccadnojnkaaaGreat Go.Proofs.YthlccadnojnkaaaGreat.Co
section
variable {cb:Nat} {kind n:Int} {v:Value} {L:List (K 12×Int)} {W0 W W':World}
theorem aGH {m:Nat} {xs:List Value} {base:Nat} (h:Cm cb kind v n L W0 W) (hr:HRow W base 32 3 v m xs) (i:Int) (hi:i<0∨(m:Int)<=i):Calls Tryz.prog 107 #[.pointer (some ⟨cb,0,none⟩),.int .i64 (i)] W fun e w'=>e=.returned (.tuple #[(Value.agg #[Value.int .i64 (0),Value.int .i64 (0),Value.string (⟨#[]⟩)]),.bool false])/\Below W.heap.size W w':=by
 have hlen:=(fun y (hy:Below W.heap.size W y)=>sJ (h.later hy) (hr.later hy));have b0:=hlen _ (aD W (.cells #[.int .i64 0,.int .i64 0,.string ⟨#[]⟩] 32));clear hlen hr h;by_cases h0:i<0
 ·go_enter Tryz.func107,Tryz.ntmps107
  go_wp2
  refine bodyPost_ret (v:=.tuple #[(Value.agg #[Value.int .i64 (0),Value.int .i64 (0),Value.string (⟨#[]⟩)]),.bool false]) (by simp[results,Tryz.results107,go_sem]) rfl ?_;exact⟨rfl,aD W _⟩
 have d0:decide (i<0)=false:=decide_eq_false h0;have d1:(m:Int)<=i:=(by omega);have d1:decide ((m:Int)<=i)=true:=decide_eq_true (by omega);go_enter Tryz.func107,Tryz.ntmps107;go_wp2_with (go_at_call 144;(with_reducible refine b0.mono ?_);rintro e w' ⟨rfl,hw⟩;subst w');refine bodyPost_ret (v:=.tuple #[(Value.agg #[Value.int .i64 (0),Value.int .i64 (0),Value.string (⟨#[]⟩)]),.bool false]) (by simp[results,Tryz.results107,go_sem]) rfl ?_;exact⟨rfl,aD W _⟩
theorem wL:(Tryz.prog.info? 32).map (fun i=>(i.zero,i.size,i.bytes))=some (some (.agg #[.int .i64 0,.int .i64 0,.string ⟨#[]⟩]),3,32):=by kernel_rfl
theorem app_one (y:World) (base:Nat) {v:Value} {m:Nat} {xs:List Value} (hr:HRow y base 32 3 v m xs) (hm:m+1<=1000000) (hb:base<=y.heap.size) (k n1:Int) (s:ByteArray) :
  ∃ g cap w',(Builtin.append_ #[27,27] 27 #[v,.slice (some ⟨y.heap.size,0,none⟩) 1 1]).run Tryz.prog (y.alloc (.cells #[.int .i64 k,.int .i64 n1,.string s] 32))=.ok (.slice (some ⟨g,0,none⟩) (m+1) cap) w' /\
   HRow w' base 32 3 (.slice (some ⟨g,0,none⟩) (m+1) cap) (m+1) (xs++[.int .i64 k,.int .i64 n1,.string s])/\(y.alloc (.cells #[.int .i64 k,.int .i64 n1,.string s] 32)).grownBy w' v.ownBlock/\(v.ownBlock=some g∨y.heap.size<=g):=by
 obtain⟨i0,hi0,hz0,hz1,hz2⟩:=info_parts wL;have hh:=heap_alloc_new y (.cells #[.int .i64 k,.int .i64 n1,.string s] 32)
 obtain⟨g,cap,w',h1,h2,h3,h4⟩:=aY (P:=Tryz.prog) (y.alloc (.cells #[.int .i64 k,.int .i64 n1,.string s] 32)) base 27 27 32 i0 _ 3 32 Tryz.underlying27 hi0 hz0 hz1 hz2 rfl (by decide) (hr.later (aD y _)) ⟨y.heap.size,0,none⟩ 1 1 [.int .i64 k,.int .i64 n1,.string s] rfl
  (by exact World.news_of_block hh) (by simp[Value.oneCell']) (by decide) (by unfold maxLen;omega) (by omega) (by rw[World.size_alloc];omega)
 exact⟨g,cap,w',h1,h2,h3,h4.imp id (fun h=>by rw[World.size_alloc] at h;omega)⟩
end
section
variable {cb:Nat} {kind n:Int} {v:Value} {L:List (K 12×Int)} {W0 W W':World}
def nUp (n:Int) (x:T3):Int:=if x.1=0 then n+1 else n
def lUp (L:List (K 12×Int)) (x:T3):List (K 12×Int):=if x.1=2 then insL keyOf (wd x.2.2) (tm (wd x.2.2) L+1) L else L
theorem iR {x:T3} (h:inC kind x=true) (h2:x.1=2):x.2.2.size<=12:=by
 unfold inC at h;rw[Bool.and_eq_true] at h;have h:=h.1;unfold mayV at h;rw[h2] at h;simp[mayT] at h;exact h.2.1
theorem mA (h:Cm cb kind v n L W0 W) (x:T3) (hs:x.1=2->x.2.2.size<=12) (hn:0<=n/\n<=1000000) (hl:L.length+1<=999999) (ht:∀ s,tm s L+1<=1000000) :
  Calls Tryz.prog 110 #[.pointer (some ⟨cb,0,none⟩),.agg #[.int .i64 (x.1),.int .i64 (x.2.1),.string (x.2.2)]] W fun e w'=>e=.returned (.tuple #[])/\Cm cb kind v (nUp n x) (lUp L x) W0 w'/\Chg (fun b=>b=cb) W w':=by
 obtain⟨k,n1,s⟩:=x;unfold nUp lUp;by_cases h0:k=0
 ·subst h0;exact wJ h n1 s hn
 by_cases h2:k=2
 ·subst h2;exact wK h n1 s (hs rfl) hl (ht _)
 simp only[h0,h2,if_false];exact (sK h n1 s k h0 h2).mono (fun e w' ⟨he,hb⟩=>⟨he,h.later hb,Chg.of_below hb⟩)
theorem wM {l:List T3} (h:Cm cb kind v n L W0 W) (hr:HRow W (cb+1) 32 3 v l.length (cells3 l)) (hll:l.length+1<=1000) (x:T3) (hs:x.2.2.size<=maxLen) (hi:inC kind x=true) (hn:0<=n/\n<=1000000) (hl:L.length+1<=999999) (ht:∀ s,tm s L+1<=1000000) :
  Calls Tryz.prog 105 #[.pointer (some ⟨cb,0,none⟩),.agg #[.int .i64 (x.1),.int .i64 (x.2.1),.string (x.2.2)]] W fun e w'=>e=.returned (.bool true)/\∃ v',Cm cb kind v' (nUp n x) (lUp L x) W0 w'/\HRow w' (cb+1) 32 3 v' (l++[x]).length (cells3 (l++[x]))/\(∀ q,v'.ownBlock=some q->v.ownBlock=some q∨W.heap.size<=q)/\Chg (fun b=>b=cb∨v.ownBlock=some b) W w':=by
 have hc:=(fun (y:World) (u:Value) (hy:Cm cb kind u n L W0 y)=>mA hy x (iR hi) hn hl ht);have hlen:(l++[x]).length=l.length+1:=(by simp);have hcell:cells3 (l++[x])=cells3 l++[.int .i64 x.1,.int .i64 x.2.1,.string x.2.2]:=(by rw[gT];simp[cells3]);rw[hlen,hcell];generalize nUp n x=n' at hc ⊢;generalize lUp L x=L' at hc ⊢;obtain⟨k,n1,s⟩:=x;have ht:=jR (h.later (aD W (.cells #[.int .i64 k,.int .i64 n1,.string s] 32))) k n1 s hs;rw[hi] at ht;have hnew:=heap_alloc_new W (.cells #[.int .i64 k,.int .i64 n1,.string s] 32);have hap:=(fun y (hy:HRow y (cb+1) 32 3 v l.length (cells3 l)) (hlt:cb+1<=y.heap.size)=>app_one y (cb+1) hy (by omega) hlt k n1 s);have hba:=aD W (.cells #[.int .i64 k,.int .i64 n1,.string s] 32);obtain⟨B,hB⟩:∃ B,W.heap.size=B:=⟨_,rfl⟩;have hlt:=h.lt;rw[hB] at hnew hba hlt;have HF:=qAq (qBq hnew (qBq hba (qBq h hr)));have HC:=qAq (qBq hlen hcell);obtain⟨m,hm⟩:∃ m,l.length=m:=⟨_,rfl⟩;obtain⟨xs,hxs⟩:∃ xs,cells3 l=xs:=⟨_,rfl⟩;rw[hm,hxs] at hap hr;simp only[hm,hxs];clear hnew hba hi hlen hcell;go_enter Tryz.func105,Tryz.ntmps105;go_wp2_with (go_at_call 108;(with_reducible refine ht.mono ?_);rintro e x1 ⟨rfl,b1⟩);have hB1:Below B W x1:=HF.out.2.1.trans (b1.mono (by rw[<- hB];simp));have hW1:Below W.heap.size W x1:=hB.symm▸hB1;have h1:=h.later hW1;have c1:=h1.c1;have f1:=h1.dm.fz 1;have hr1:=hr.later hW1;have bx:x1.heap[B]?=some (.cells #[.int .i64 k,.int .i64 n1,.string s] 32):=(b1.block B (by simp;omega)).trans HF.out.1;have b0:=aA bx 0;have b1':=aA bx 1;have b2:=aA bx 2;have hz1:cb+1<=x1.heap.size:=(by have:=hB1.size;omega);obtain⟨g,cap',w3,hrun,r3,g3,own⟩:=hap x1.drew (hr1.later (Below.refl _ x1).drew) hz1;have hrun:(Builtin.append_ #[27,27] 27 #[v,.slice (some ⟨x1.heap.size,0,none⟩) 1 1]).run Tryz.prog (x1.alloc (.cells #[.int .i64 k,.int .i64 n1,.string s] 32)).drew=.ok (.slice (some ⟨g,0,none⟩) (m+1) cap') w3:=hrun;have hb3:x1.grownBy w3 v.ownBlock:=⟨g3.os,g3.tape,g3.output,Nat.le_trans (by simp) g3.size,fun q hq hne=>(g3.block q (by show q<(x1.alloc _).heap.size;simp;omega) hne).trans ((aD x1 _).block q hq)⟩
 have hnb:∀ q,v.ownBlock=some q->q≠cb/\Ty x1 q:=fun q hq=>by
  obtain⟨q1,cur,q2⟩:=hr1.block q hq;exact⟨by omega,cur,32,q2,by decide⟩
 have h3:=h1.other hb3 hnb;have c3:=h3.c1;have f3:=h3.dm.fz 1;have hBn:∀ q,v.ownBlock=some q->q≠B:=(fun q hq=>by have:=(HF.out.2.2.2.lt q hq).2;omega);have bx3:w3.heap[B]?=some (.cells #[.int .i64 k,.int .i64 n1,.string s] 32):=(hb3.block B (World.block_lt_of_cell? x1 ⟨B,0,none⟩ b0) (fun e=>hBn B e.symm rfl)).trans bx;have HH:=qAq (qBq h3 (qBq r3 (qBq hb3 (qBq own (qBq bx3 hW1)))));have hB3:B<w3.heap.size:=aC bx3
 have hgc:g≠cb:=by
  rcases own with e|e
  ·exact (hnb g e).1
  intro e2;have:cb<x1.heap.size:=h1.lt;have:x1.heap.size<=g:=e;omega
 have hlt1:cb<x1.heap.size:=h1.lt;have hBx1:B<x1.heap.size:=World.block_lt_of_cell? x1 ⟨B,0,none⟩ b0;clear h3 r3 hb3 g3 own bx3 hnb hBn h1 hr1 hap
 go_region_law (refine bJ rfl (.tmp 13) (.tmp 15) 27 rfl rfl rfl hrun ?_)
 all_goals
  obtain⟨w4,hw4⟩:∃ w4,w4=w3.setCell ⟨cb,1,none⟩ (.slice (some ⟨g,0,none⟩) (m+1) cap'):=⟨_,rfl⟩;rw[<- hw4];obtain⟨h3,r3,hb3,own,bx3,hW1⟩:=HH.out;have h4:=h3.set1 (.slice (some ⟨g,0,none⟩) (m+1) cap');have bb4:∀ q,q≠cb->w4.heap[q]?=w3.heap[q]?:=(fun q hq=>by rw[hw4];exact Below.heap_setCell _ _ _ _ (fun e=>hq e));rw[<- hw4] at h4;have r4:=r3.of (w':=w4) (fun q hq=>bb4 q (by cases hq;exact hgc));have bx4:=(bb4 B (by omega)).trans bx3;have d0:=aA bx4 0;have d1:=aA bx4 1;have d2:=aA bx4 2;have hcc:=hc w4 _ h4
  have g4:Chg (fun b=>b=cb∨v.ownBlock=some b) W w4:=by
   rw[hw4];exact ((Chg.of_below hW1).grown hb3 (fun q hq _=>.inr hq)).setCell (fun _=>.inl rfl) _
  have HG:=qAq (qBq r4 (qBq g4 own));have hsz:W.heap.size<=x1.heap.size:=hW1.size;have HS:=qAq hsz;clear h3 r3 hb3 own bx3 hW1 h4 bb4 r4 g4 hsz bx4 hw4;go_wp2_with (go_at_call 110;(with_reducible refine hcc.mono ?_);rintro e w5 ⟨rfl,d5,c5⟩);go_ret;refine⟨rfl,_,d5,HG.out.1.chg (by omega) c5,fun q hq=>?_,HG.out.2.1.trans c5 (fun _ _ x=>x) (fun _ _ x=>.inl x)⟩;cases hq;exact HG.out.2.2.imp id (fun h=>Nat.le_trans HS.out h)
end
section
variable {cb:Nat} {kind n:Int} {v:Value} {L:List (K 12×Int)} {W0 W W':World}
theorem aEK {m:Nat} {xs:List Value} {base:Nat} (h:Cm cb kind v n L W0 W) (hr:HRow W base 32 3 v m xs) (i:Int) (hi:i<0∨(m:Int)<=i) (k n1:Int) (s:ByteArray):Calls Tryz.prog 73 #[.pointer (some ⟨cb,0,none⟩),.int .i64 (i),.agg #[.int .i64 (k),.int .i64 (n1),.string (s)]] W fun e w'=>e=.returned (.bool false)/\Below W.heap.size W w':=by
 have ha:=aGH (h.later (aD W (.cells #[.int .i64 k,.int .i64 n1,.string s] 32))) (hr.later (aD W (.cells #[.int .i64 k,.int .i64 n1,.string s] 32))) i hi;clear hi h hr;go_enter Tryz.func73,Tryz.ntmps73;go_wp2_with (go_at_call 107;(with_reducible refine ha.mono ?_);rintro e x1 ⟨rfl,b1⟩);go_ret;exact⟨rfl,aB (aB (aD W _) b1) (aD _ _)⟩
theorem aGI {l:List T3} {base:Nat} (h:Cm cb kind v n L W0 W) (hr:HRow W base 32 3 v l.length (cells3 l)) (i:Nat) (hi:i<l.length) (k n1:Int) (s:ByteArray) (hs:s.size<=maxLen) (hc:inC kind (k,n1,s)=false):Calls Tryz.prog 73 #[.pointer (some ⟨cb,0,none⟩),.int .i64 ((i:Int)),.agg #[.int .i64 (k),.int .i64 (n1),.string (s)]] W fun e w'=>e=.returned (.bool false)/\Below W.heap.size W w':=by
 have ha:=aCp (h.later (aD W (.cells #[.int .i64 k,.int .i64 n1,.string s] 32))) (hr.later (aD W (.cells #[.int .i64 k,.int .i64 n1,.string s] 32))) i hi;have ht:=(fun y (hy:Below W.heap.size W y)=>jR (h.later hy) k n1 s hs);rw[hc] at ht;generalize l[i]=x at ha;have hnew:=heap_alloc_new W (.cells #[.int .i64 k,.int .i64 n1,.string s] 32);obtain⟨B,hB⟩:∃ B,W.heap.size=B:=⟨_,rfl⟩;have hba:=aD W (.cells #[.int .i64 k,.int .i64 n1,.string s] 32);rw[hB] at hnew hba ht;clear hi h hr;go_enter Tryz.func73,Tryz.ntmps73
 go_wp2_with (first
  | (go_at_call 107;(with_reducible refine ha.mono ?_);rintro e x1 ⟨rfl,b1⟩;have bx:x1.heap[B]?=some (.cells #[.int .i64 k,.int .i64 n1,.string s] 32):=(b1.block B (by simp;omega)).trans hnew;have b0:=aA bx 0;have b1':=aA bx 1;have b2:=aA bx 2;have hlt:=aC bx;have hb1:Below B W x1:=hba.trans (b1.mono (by rw[<- hB];simp)))
  | (go_at_call 108;(with_reducible refine (ht _ (hb1.alloc (by omega) _)).mono ?_);rintro e x2 ⟨rfl,b2⟩))
 go_ret;exact⟨rfl,by rw[hB];exact (hb1.alloc (by omega) _).trans (b2.mono (by simp;omega))⟩
def nDn (n:Int) (x:T3):Int:=if x.1=0 then n-1 else n
def lDn (L:List (K 12×Int)) (x:T3):List (K 12×Int):=if x.1=2 then takeL (wd x.2.2) L else L
theorem sM (h:Cm cb kind v n L W0 W) (x:T3) (hs:x.1=2->x.2.2.size<=12) (hn:n<=1000000) (hn1:x.1=0->1<=n) (hl:L.length+1<=999999) :
  Calls Tryz.prog 109 #[.pointer (some ⟨cb,0,none⟩),.agg #[.int .i64 (x.1),.int .i64 (x.2.1),.string (x.2.2)]] W fun e w'=>e=.returned (.tuple #[])/\Cm cb kind v (nDn n x) (lDn L x) W0 w'/\Chg (fun b=>b=cb) W w':=by
 obtain⟨k,n1,s⟩:=x;unfold nDn lDn;by_cases h0:k=0
 ·subst h0;exact qM h n1 s ⟨hn1 rfl,hn⟩
 by_cases h2:k=2
 ·subst h2;exact qN h n1 s (hs rfl) hl
 simp only[h0,h2,if_false];exact (oU h n1 s k h0 h2).mono (fun e w' ⟨he,hb⟩=>⟨he,h.later hb,Chg.of_below hb⟩)
theorem aGJ (s:K 12) (x:T3) (hs:Srt keyOf L) (hp:∀ s,0<=tm s L):tm s (lDn L x)<=tm s L:=by
 unfold lDn;split
 ·rw[aAO _ _ hs (hp _)];split
  ·rename_i e;have h1:=hp (wd x.2.2);rw[e] at h1 ⊢;split <;> omega
  omega
 omega
theorem aEL (x:T3) (hs:Srt keyOf L):(lDn L x).length<=L.length:=by
 unfold lDn;split
 ·exact wC _ hs
 omega
end
section
variable {cb:Nat} {kind n:Int} {v:Value} {L:List (K 12×Int)} {W0 W W':World}
theorem qO {w:World} {base g cap m:Nat} {l:List T3} (h:HRow w base 32 3 (.slice (some ⟨g,0,none⟩) m cap) m (cells3 l)) (hm:l.length=m) (i:Nat) (hi:i<m) (k n1:Int) (s:ByteArray) :
  HRow (((w.setCell ⟨g,i*3,none⟩ (.int .i64 k)).setCell ⟨g,i*3+1,none⟩ (.int .i64 n1)).setCell ⟨g,i*3+2,none⟩ (.string s)) base 32 3 (.slice (some ⟨g,0,none⟩) m cap) m (cells3 (l.set i (k,n1,s))) /\
   w.grownBy (((w.setCell ⟨g,i*3,none⟩ (.int .i64 k)).setCell ⟨g,i*3+1,none⟩ (.int .i64 n1)).setCell ⟨g,i*3+2,none⟩ (.string s)) (some g):=by
 rw[wI l i (by omega)];obtain⟨a,b⟩:=h.stored (i*3) (.int .i64 k);obtain⟨c,d⟩:=a.stored (i*3+1) (.int .i64 n1);obtain⟨e,f⟩:=c.stored (i*3+2) (.string s);refine⟨e,⟨rfl,rfl,rfl,by simp[World.setCell],fun q hq hn=>?_⟩⟩;exact (f.block q (Nat.lt_of_lt_of_le hq (Nat.le_trans b.size d.size)) hn).trans ((d.block q (Nat.lt_of_lt_of_le hq b.size) hn).trans (b.block q hq hn))
theorem aEM {l:List T3} (h:Cm cb kind v n L W0 W) (hr:HRow W (cb+1) 32 3 v l.length (cells3 l)) (hll:l.length<=1000) (i:Nat) (hi:i<l.length) (x:T3) (hs:x.2.2.size<=maxLen) (hi1:inC kind x=true) (hi2:inC kind l[i]=true)
  (hn:0<=n/\n<=1000000) (hn1:(l[i]).1=0->1<=n) (hl:L.length+1<=999999) (ht:∀ s,0<=tm s L/\tm s L+1<=1000000) :
  Calls Tryz.prog 73 #[.pointer (some ⟨cb,0,none⟩),.int .i64 ((i:Int)),.agg #[.int .i64 (x.1),.int .i64 (x.2.1),.string (x.2.2)]] W fun e w'=>e=.returned (.bool true)/\Cm cb kind v (nUp (nDn n l[i]) x) (lUp (lDn L l[i]) x) W0 w'/\HRow w' (cb+1) 32 3 v (l.set i x).length (cells3 (l.set i x))/\Chg (fun b=>b=cb∨v.ownBlock=some b) W w':=by
 have hun:=(fun (y:World) (hy:Cm cb kind v n L W0 y)=>sM hy l[i] (iR hi2) hn.2 hn1 hl);have hsr:=h.dm.srt;have hnn:0<=nDn n l[i]/\nDn n l[i]<=1000000:=(by unfold nDn;split <;> omega);have hc:=(fun (y:World) (hy:Cm cb kind v (nDn n l[i]) (lDn L l[i]) W0 y)=>mA hy x (iR hi1) hnn (by have:=aEL l[i] hsr;omega) (fun s=>by have:=aGJ s l[i] hsr (fun s=>(ht s).1);have:=(ht s).2;omega));have hat:=(fun (y:World) (hy:Cm cb kind v n L W0 y) (hr:HRow y (cb+1) 32 3 v l.length (cells3 l))=>aCp hy hr i hi);have hlen:(l.set i x).length=l.length:=(by simp);rw[hlen];generalize nUp (nDn n l[i]) x=n' at hc ⊢;generalize lUp (lDn L l[i]) x=L' at hc ⊢;generalize nDn n l[i]=n0 at hun hc hnn;generalize lDn L l[i]=L0 at hun hc;generalize l[i]=y at hun hat;obtain⟨yk,yn,ys⟩:=y;obtain⟨g,cap,rfl,hnc,_⟩:=hr.slice (by omega);obtain⟨k,n1,s⟩:=x;have htk:=(fun z (hz:Cm cb kind (.slice (some ⟨g,0,none⟩) l.length cap) n L W0 z)=>jR hz k n1 s hs);rw[hi1] at htk;obtain⟨m,hm⟩:∃ m,l.length=m:=⟨_,rfl⟩;rw[hm] at h hr hi hnc hat htk hun hc ⊢;have hnew:=heap_alloc_new W (.cells #[.int .i64 k,.int .i64 n1,.string s] 32);have hba:=aD W (.cells #[.int .i64 k,.int .i64 n1,.string s] 32);obtain⟨B,hB⟩:∃ B,W.heap.size=B:=⟨_,rfl⟩;have hat0:=hat _ (h.later hba) (hr.later hba);rw[hB] at hnew hba;have hlt:=h.lt;rw[hB] at hlt;have HF:=qAq (qBq hnew (qBq hba (qBq h hr)));have hgB:g<B:=(by rw[<- hB];exact (hr.lt g rfl).2);have hgc:cb+1<=g:=(hr.lt g rfl).1;have q1:(i:Int)<(m:Int):=(by omega);have HI:=qAq (qBq hi hm);have hLW:∀ y,Below B W y->Cm cb kind (.slice (some ⟨g,0,none⟩) m cap) n L W0 y/\HRow y (cb+1) 32 3 (.slice (some ⟨g,0,none⟩) m cap) m (cells3 l):=(fun y hy=>⟨h.later (hB.symm▸hy),hr.later (hB.symm▸hy)⟩);clear hnew hba hi1 hi2 hlen hnn ht hn1 hn hsr hat h hr hnc hl;go_enter Tryz.func73,Tryz.ntmps73
 go_wp2_with (first
  | (go_at_call 107;(with_reducible refine hat0.mono ?_);rintro e x1 ⟨rfl,b1⟩;have hb1:Below B W x1:=HF.out.2.1.trans (b1.mono (by rw[<- hB];simp));have bx:x1.heap[B]?=some (.cells #[.int .i64 k,.int .i64 n1,.string s] 32):=(b1.block B (by simp;omega)).trans HF.out.1;have b0:=aA bx 0;have b1':=aA bx 1;have b2:=aA bx 2;have hlt1:=aC bx;have hnew1:=heap_alloc_new x1 (.cells #[.int .i64 yk,.int .i64 yn,.string ys] 32);obtain⟨C,hC⟩:∃ C,x1.heap.size=C:=⟨_,rfl⟩;rw[hC] at hnew1 hlt1;have HX:=qAq (qBq hnew1 (qBq hb1 bx));clear hnew1 bx b1)
  | (go_at_call 108;(with_reducible refine (htk _ (hLW _ (hb1.alloc (by omega) _)).1).mono ?_);rintro e x2 ⟨rfl,b2x⟩;have hb2:Below B W x2:=(hb1.alloc (by omega) _).trans (b2x.mono (by simp;omega));have bC2:x2.heap[C]?=some (.cells #[.int .i64 yk,.int .i64 yn,.string ys] 32):=(b2x.block C (by simp;omega)).trans HX.out.1;have bB2:x2.heap[B]?=some (.cells #[.int .i64 k,.int .i64 n1,.string s] 32):=(b2x.block B (by simp;omega)).trans ((Below.heap_alloc _ _ _ (by omega)).trans HX.out.2.2);have e0:=aA bC2 0;have e1:=aA bC2 1;have e2:=aA bC2 2;have f0:=aA bB2 0;have f1:=aA bB2 1;have f2:=aA bB2 2;obtain⟨h2,r2⟩:=hLW x2 hb2;have c1:=h2.c1;obtain⟨z0,z1,z2⟩:=dG l i (by omega);have w0:=r2.cell z0;have w1:=r2.cell z1;have w2:=r2.cell z2;have y0:=r2.frozenAt (i*3);have y1:=r2.frozenAt (i*3+1);have y2:=r2.frozenAt (i*3+2);have HY:=qAq (qBq h2 (qBq r2 (qBq hb2 (qBq bC2 bB2))));clear h2 r2 b2x bC2 bB2 z0 z1 z2 hb1 b0 b1' b2 hb2))
 have hxw:cb<x2.heap.size:=HY.out.1.lt;refine Par.wp_region_par 6 [.pointer (some ⟨cb,0,none⟩),.pointer (some ⟨cb,0,none⟩),.pointer (some ⟨cb,1,none⟩),.slice (some ⟨g,0,none⟩) m cap,.int .i64 (i:Int),.agg #[.int .i64 k,.int .i64 n1,.string s]] (fun w=>w=x2.drew) ?A1 ?hm1 ?hB1 ?hA1 rfl ?hop1 ?hT1
 case hm1=>kernel_rfl
 case hB1=>kernel_rfl
 case hA1 =>
  simp only[Par.putA,Par.dstAt,Act.put,qDq,qEq,qFq,qLq,qGq,qHq,qIq,qJq,qKq];rfl
 case hop1 =>
  simp only[qMq,List.take_zero,Par.GiveAll,and_true];and_intros<;>intro w' hR<;>have HR:=qAq hR
  rotate_left 3
  ·obtain rfl:=hR;simp only[Par.Gives];go_simp;all_goals exact HR.out
  rotate_left
  ·obtain rfl:=hR;simp only[Par.Gives];go_simp;all_goals exact HR.out
  all_goals(clear hR;simp only[Par.Gives];go_simp;all_goals exact HR.out)
 intro w' hR;simp only[qNq,List.drop_zero];subst hR;obtain⟨h2,r2,hb2,bC2,bB2⟩:=HY.out;obtain⟨r3,g3⟩:=qO r2 HI.out.2 i HI.out.1 k n1 s;have h3:=h2.other g3 (fun q hq=>by cases hq;obtain⟨q1,cur,q2⟩:=r2.block g rfl;exact⟨by omega,cur,32,q2,by decide⟩);have bC3:=(g3.block C (aC bC2) (fun e=>by cases e;omega)).trans bC2;have bB3:=(g3.block B (aC bB2) (fun e=>by cases e;omega)).trans bB2;have k3:Chg (fun b=>b=cb∨b=g) W (((x2.setCell ⟨g,i*3,none⟩ (.int .i64 k)).setCell ⟨g,i*3+1,none⟩ (.int .i64 n1)).setCell ⟨g,i*3+2,none⟩ (.string s)):=(Chg.of_below (hB.symm▸hb2)).grown g3 (fun q hq _=>by cases hq;exact .inr rfl);have hcu:=hun _ (h3.later (Below.refl _ _).drew);obtain⟨w3,hw3⟩:∃ w3,((x2.setCell ⟨g,i*3,none⟩ (.int .i64 k)).setCell ⟨g,i*3+1,none⟩ (.int .i64 n1)).setCell ⟨g,i*3+2,none⟩ (.string s)=w3:=⟨_,rfl⟩;have HZ:=qAq (qBq r3 (qBq bC3 (qBq bB3 k3)));rw[hw3] at HZ;have a0:=aA bC3 0;have a1:=aA bC3 1;have a2:=aA bC3 2;have v0:=aA bB3 0;have v1:=aA bB3 1;have v2:=aA bB3 2;rw[hw3] at a0 a1 a2 v0 v1 v2 hcu;have hcb:cb≠B:=(by omega);clear h2 r2 hb2 bC2 bB2 r3 g3 h3 bC3 bB3 k3 hun
 go_wp2_with (first
  | (go_at_call 109;(with_reducible refine hcu.mono ?_);rintro e x4 ⟨rfl,d4,k4⟩;have bB4:x4.heap[B]?=some (.cells #[.int .i64 k,.int .i64 n1,.string s] 32):=(k4.block B (aC HZ.out.2.2.1) (fun e=>hcb e.symm)).trans HZ.out.2.2.1;have t0:=aA bB4 0;have t1:=aA bB4 1;have t2:=aA bB4 2;have hcn:=hc _ d4)
  | (go_at_call 110;(with_reducible refine hcn.mono ?_);rintro e x5 ⟨rfl,d5,k5⟩))
 go_ret;have k3:=HZ.out.2.2.2;refine⟨rfl,d5,?_,((k3.drew.trans k4 (fun _ _ x=>x) (fun _ _ x=>.inl x)).trans k5 (fun _ _ x=>x) (fun _ _ x=>.inl x)).mono (fun b _ x=>x.imp id (fun e=>by rw[e];rfl))⟩;have r4:HRow x4 (cb+1) 32 3 (.slice (some ⟨g,0,none⟩) m cap) m (cells3 (l.set i (k,n1,s))):=(HZ.out.1.later (Below.refl _ w3).drew).chg (Nat.lt_succ_self cb) k4;exact r4.chg (Nat.lt_succ_self cb) k5
end
theorem qP {α:Type} (f:α->Nat) (x:α):∀ (l:List α) (i:Nat) (h:i<l.length),((l.set i x).map f).sum+f l[i]=(l.map f).sum+f x
 | [],i,h=>by simp at h
 | a::r,0,_=>by simp;omega
 | a::r,i+1,h=>by
  have:=qP f x r i (by simpa using h)
  simp only[qIq,List.map_cons,List.sum_cons,List.getElem_cons_succ];omega
theorem wN {α:Type} (f:α->Nat) (hf:∀ x,f x<=1):∀ l:List α,(l.map f).sum<=l.length
 | []=>by simp
 | a::r=>by
  have:=wN f hf r
  have:=hf a
  simp only[List.map_cons,List.sum_cons,List.length_cons];omega
theorem lM {α:Type} (f:α->Nat):∀ l:List α,1<=(l.map f).sum↔∃ x∈l,1<=f x
 | []=>by simp
 | a::r=>by
  have ih:=lM f r;simp only[List.map_cons,List.sum_cons,List.mem_cons,exists_eq_or_imp];rw[<- ih];omega
def one (s:K 12) (x:T3):Nat:=if x.1=2/\wd x.2.2=s then 1 else 0
theorem aGK (s:K 12) (x:T3):one s x<=1:=by unfold one;split <;> omega
def ct (s:K 12) (l:List T3):Nat:=(l.map (one s)).sum
def nul (x:T3):Nat:=if x.1=0 then 1 else 0
def nz (l:List T3):Nat:=(l.map nul).sum
theorem aEN (l:List T3) (x:T3):((nz (l++[x]):Nat):Int)=nUp (nz l) x:=by unfold nz nUp nul;simp;split <;> simp
theorem aGL (l:List T3) (i:Nat) (h:i<l.length) (x:T3):((nz (l.set i x):Nat):Int)=nUp (nDn (nz l) l[i]) x:=by
 have:=qP nul x l i h
 unfold nz nUp nDn;unfold nul at this ⊢;split at this <;> split at this <;> simp_all <;> omega
theorem aGz (l:List T3):nz l<=l.length:=wN _ (fun x=>by unfold nul;split <;> omega) l
theorem aGM (l:List T3) (i:Nat) (h:i<l.length) (h0:(l[i]).1=0):1<=nz l:=(lM _ l).2 ⟨l[i],List.getElem_mem _,by unfold nul;rw[if_pos h0];omega⟩
theorem aHT (s:K 12) (l:List T3):ct s l<=l.length:=wN _ (aGK s) l
def Cn (l:List T3) (L:List (K 12×Int)):Prop:=∀ s,tm s L=(ct s l:Int)
theorem aCq {L:List (K 12×Int)} (hs:Srt keyOf L) (x:T3) (s:K 12):tm s (lUp L x)=tm s L+one s x:=by
 unfold lUp one;by_cases h:x.1=2
 ·rw[if_pos h,yZ _ _ _ hs];by_cases e:wd x.2.2=s
  ·rw[if_pos e,if_pos ⟨h,e⟩,e];rfl
  rw[if_neg e,if_neg (fun x=>e x.2)];simp
 rw[if_neg h,if_neg (fun x=>h x.1)];simp
theorem aEO {L:List (K 12×Int)} (hs:Srt keyOf L) (x:T3) (hx:x.1=2->1<=tm (wd x.2.2) L) (s:K 12):tm s (lDn L x)+one s x=tm s L:=by
 unfold lDn one;by_cases h:x.1=2
 ·have h1:=hx h;rw[if_pos h,aAO _ _ hs (by omega),if_pos h1];by_cases e:wd x.2.2=s
  ·rw[if_pos e,if_pos ⟨h,e⟩,e];simp
  rw[if_neg e,if_neg (fun x=>e x.2)];simp
 rw[if_neg h,if_neg (fun x=>h x.1)];simp
theorem aEP {L:List (K 12×Int)} (hs:Srt keyOf L) (x:T3):Srt keyOf (lDn L x):=by
 unfold lDn;split
 ·exact aEJ _ hs
 exact hs
theorem Cn.nil:Cn [] []:=fun s=>by rw[sH];rfl
theorem Cn.snoc {l:List T3} {L:List (K 12×Int)} (h:Cn l L) (hs:Srt keyOf L) (x:T3):Cn (l++[x]) (lUp L x):=fun s=>by
 rw[aCq hs,h s];unfold ct
 simp
theorem Cn.set {l:List T3} {L:List (K 12×Int)} (h:Cn l L) (hs:Srt keyOf L) (i:Nat) (hi:i<l.length) (x:T3):Cn (l.set i x) (lUp (lDn L l[i]) x):=fun s=>by
 have h1:=qP (one s) x l i hi
 have h2:=aEO hs l[i] (fun e=>by
  rw[h (wd (l[i]).2.2)]
  have:=(lM (one (wd (l[i]).2.2)) l).2 ⟨l[i],List.getElem_mem _,by unfold one;rw[if_pos ⟨e,rfl⟩];omega⟩
  unfold ct;omega) s
 have h3:=h s;rw[aCq (aEP hs _)];unfold ct at h3 ⊢;omega
theorem Cn.bd {l:List T3} {L:List (K 12×Int)} (h:Cn l L) (s:K 12):0<=tm s L/\tm s L<=l.length:=by
 rw[h s]
 have:=aHT s l
 omega
theorem lN {α:Type} [DecidableEq α]:∀ {l m:List α},l.Nodup->(∀ s∈l,s∈m)->l.length<=m.length
 | [],_,_,_=>Nat.zero_le _
 | a::r,m,h,hs=>by
  rw[List.nodup_cons] at h;have ha:a∈m:=hs a (by simp)
  have:=lN (l:=r) (m:=m.erase a) h.2 (fun s hm=>(List.mem_erase_of_ne (fun e=>h.1 (by rw[<- e];exact hm))).2 (hs s (by simp[hm])))
  rw[List.length_erase_of_mem ha] at this
  have:=List.length_pos_of_mem ha
  rw[List.length_cons];omega
theorem mB:∀ {l:List (K 12)},SrtK l->l.Nodup:=fun {l} h=>by
 unfold SrtK at h;exact h.imp (fun hab e=>by rw[e] at hab;omega)
theorem Cn.mem {W0 W:World} {mb:Nat} {l:List T3} {L:List (K 12×Int)} (h:Cn l L) (hd:Dm W0 mb L W) (s:K 12):s∈keys L↔∃ x∈l,x.1=2/\wd x.2.2=s:=by
 rw[<- aAN,(hd.tm_bd s).2.2,h s]
 have:=lM (one s) l
 unfold ct;constructor
 ·intro hh;obtain⟨x,hx,h1⟩:=this.1 (by omega);refine⟨x,hx,?_⟩;unfold one at h1;split at h1
  ·assumption
  omega
 rintro ⟨x,hx,h1⟩
 have:=this.2 ⟨x,hx,by unfold one;rw[if_pos h1];omega⟩
 omega
theorem Cn.len {W0 W:World} {mb:Nat} {l:List T3} {L:List (K 12×Int)} (h:Cn l L) (hd:Dm W0 mb L W) (m:List (K 12)) (hm:m.Nodup) (hs:∀ s,s∈m↔∃ x∈l,x.1=2/\wd x.2.2=s):L.length=m.length:=by
 have hk:(keys L).Nodup:=mB (vZ hd.srt);have h1:=lN hk (fun s hx=>(hs s).2 ((h.mem hd s).1 hx));have h2:=lN hm (fun s hx=>(h.mem hd s).2 ((hs s).1 hx));simp at h1 h2;omega
theorem Cn.len_le {W0 W:World} {mb:Nat} {l:List T3} {L:List (K 12×Int)} (h:Cn l L) (hd:Dm W0 mb L W):L.length<=l.length:=by
 have hk:(keys L).Nodup:=mB (vZ hd.srt)
 have h1:=lN (m:=l.map (fun x=>wd x.2.2)) hk (fun s hx=>by
  obtain⟨x,hx,_,e⟩:=(h.mem hd s).1 hx;exact List.mem_map.2 ⟨x,hx,e⟩)
 simp at h1;exact h1
structure Col (cb:Nat) (kind:Int) (l:List T3) (v:Value) (W:World):Prop where
 mem:∃ L W0,Cm cb kind v (nz l) L W0 W/\Cn l L
 row:HRow W (cb+1) 32 3 v l.length (cells3 l)
 ok:∀ x∈l,inC kind x=true
section
variable {cb:Nat} {kind:Int} {l:List T3} {v:Value} {W W':World}
theorem Col.lt (h:Col cb kind l v W):cb<W.heap.size:=by obtain⟨L,W0,h1,_⟩:=h.mem;exact h1.lt
theorem Col.later (h:Col cb kind l v W) (hb:Below W.heap.size W W'):Col cb kind l v W':=by
 obtain⟨L,W0,h1,h2⟩:=h.mem;exact⟨⟨L,W0,h1.later hb,h2⟩,h.row.later hb,h.ok⟩
theorem aEQ (h:Col cb kind l v W) (hl:l.length+1<=900) (x:T3) (hs:x.2.2.size<=maxLen) (hi:inC kind x=true) :
  Calls Tryz.prog 105 #[.pointer (some ⟨cb,0,none⟩),.agg #[.int .i64 (x.1),.int .i64 (x.2.1),.string (x.2.2)]] W fun e w'=>e=.returned (.bool true)/\∃ v',Col cb kind (l++[x]) v' w'/\(∀ q,v'.ownBlock=some q->v.ownBlock=some q∨W.heap.size<=q)/\Chg (fun b=>b=cb∨v.ownBlock=some b) W w':=by
 obtain⟨L,W0,h1,h2⟩:=h.mem;have hle:=h2.len_le h1.dm;have hnz:=aGz l;refine (wM h1 h.row (by omega) x hs hi (by omega) (by omega) (fun s=>by have:=h2.bd s;omega)).mono ?_;rintro e w' ⟨rfl,v',c1,c2,c3,c4⟩;refine⟨rfl,v',⟨⟨_,W0,by rw[aEN];exact c1,h2.snoc h1.dm.srt x⟩,c2,fun y hy=>?_⟩,c3,c4⟩;rcases List.mem_append.1 hy with hy|hy
 ·exact h.ok y hy
 rw[List.mem_singleton.1 hy];exact hi
theorem qQ (h:Col cb kind l v W) (hl:l.length<=900) (i:Nat) (hil:i<l.length) (x:T3) (hs:x.2.2.size<=maxLen) (hi:inC kind x=true) :
  Calls Tryz.prog 73 #[.pointer (some ⟨cb,0,none⟩),.int .i64 ((i:Int)),.agg #[.int .i64 (x.1),.int .i64 (x.2.1),.string (x.2.2)]] W fun e w'=>e=.returned (.bool true)/\Col cb kind (l.set i x) v w'/\Chg (fun b=>b=cb∨v.ownBlock=some b) W w':=by
 obtain⟨L,W0,h1,h2⟩:=h.mem;have hle:=h2.len_le h1.dm;have hnz:=aGz l;refine (aEM h1 h.row (by omega) i hil x hs hi (h.ok _ (List.getElem_mem _)) (by omega) (fun e=>by have:=aGM l i hil e;omega) (by omega) (fun s=>by have:=h2.bd s;omega)).mono ?_;rintro e w' ⟨rfl,c1,c2,c4⟩;refine⟨rfl,⟨⟨_,W0,by rw[aGL l i hil];exact c1,h2.set h1.dm.srt i hil x⟩,c2,fun y hy=>?_⟩,c4⟩;rcases List.mem_or_eq_of_mem_set hy with hy|hy
 ·exact h.ok y hy
 rw[hy];exact hi
theorem wP (h:Col cb kind l v W) (i:Int) (x:T3) (hs:x.2.2.size<=maxLen) (hi:¬ (0<=i/\i<l.length)∨inC kind x=false) :
  Calls Tryz.prog 73 #[.pointer (some ⟨cb,0,none⟩),.int .i64 (i),.agg #[.int .i64 (x.1),.int .i64 (x.2.1),.string (x.2.2)]] W fun e w'=>e=.returned (.bool false)/\Below W.heap.size W w':=by
 obtain⟨L,W0,h1,h2⟩:=h.mem;by_cases hin:0<=i/\i<l.length
 ·obtain⟨j,rfl⟩:=Int.eq_ofNat_of_zero_le hin.1;exact aGI h1 h.row j (by omega) x.1 x.2.1 x.2.2 hs (hi.resolve_left (fun hn=>hn hin))
 exact aEK h1 h.row i (by omega) x.1 x.2.1 x.2.2
theorem aCr (h:Col cb kind l v W) (i:Nat) (hi:i<l.length):Calls Tryz.prog 107 #[.pointer (some ⟨cb,0,none⟩),.int .i64 ((i:Int))] W fun e w'=>e=.returned (.tuple #[(Value.agg #[Value.int .i64 ((l[i]).1),Value.int .i64 ((l[i]).2.1),Value.string ((l[i]).2.2)]),.bool true])/\Below W.heap.size W w':=by
 obtain⟨L,W0,h1,h2⟩:=h.mem;exact aCp h1 h.row i hi
theorem aAS (h:Col cb kind l v W) (m:List (K 12)) (hm:m.Nodup) (hs:∀ s,s∈m↔∃ x∈l,x.1=2/\wd x.2.2=s):Calls Tryz.prog 118 #[.pointer (some ⟨cb,0,none⟩)] W fun e w'=>e=.returned (Value.int .i64 ((m.length:Int)))/\w'=W:=by
 obtain⟨L,W0,h1,h2⟩:=h.mem
 have:=aAR h1
 rw[h2.len h1.dm m hm hs] at this;exact this
theorem aER (k:Int) (hk:k=1∨k=2) (W:World):Calls Tryz.prog 130 #[.int .i64 (k)] W fun e w'=>e=.returned (Value.pointer (some ⟨W.heap.size,0,none⟩))/\Col W.heap.size k [] (.slice none 0 0) w'/\Below W.heap.size W w':=by
 have hh:=heap_alloc_new W (.cells #[(Value.int .i64 (k)),.slice none 0 0,.nilFunc,.pointer none,(Value.int .i64 (0))] 168)
 have hcol:Col W.heap.size k [] (.slice none 0 0) (W.alloc (.cells #[(Value.int .i64 (k)),.slice none 0 0,.nilFunc,.pointer none,(Value.int .i64 (0))] 168)) :=
  ⟨⟨[],W,⟨aA hh 0,aA hh 1,⟨⟨.nilFunc,⟨Nat.zero_le _,aA hh 2,⟨.nil,none,aA hh 3,rfl,rfl⟩,fun j=>frozen_of_row _ _ j _ _ hh,Srt.nil,(aD W _).mono (Nat.zero_le _),⟨_,_,hh,by decide⟩⟩,.inl rfl⟩,fun p hp=>by simp at hp,by simp⟩,aA hh 4⟩,Cn.nil⟩,HRow.nil,fun x hx=>by simp at hx⟩
 have HC:=qAq hcol;clear hcol hh;rcases hk with rfl|rfl
 ·go_enter Tryz.func130,Tryz.ntmps130
  go_wp2
  go_ret;exact⟨rfl,HC.out,aD W _⟩
 go_enter Tryz.func130,Tryz.ntmps130
 go_wp2
 go_ret;exact⟨rfl,HC.out,aD W _⟩
end
