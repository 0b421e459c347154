import Derived.Test.YthlccadnojnkaaaGreatZk25
set_option maxHeartbeats 8000000
set_option maxRecDepth 100000
namespace Go.Proofs.YthlccadnojnkaaaGreat
open Go Go.RowKit Go.Proofs Co Co.S
theorem iD (k n1:Int) (s:ByteArray) (c:C) (W:World) (hs:s.size<=maxLen):Calls Tryz.prog 71 #[.agg #[.int .i64 (k),.int .i64 (n1),.string (s)],.agg #[.string c.nm,.int .i64 c.kd,.bool c.mu,.string c.tgt]] W fun e w'=>e=.returned (.bool (inC c.kd (k,n1,s)))/\Below W.heap.size W w':=by
 have hb1:=aD W (.cells #[.int .i64 k,.int .i64 n1,.string s] 32);have k1:=heap_alloc_new W (.cells #[.int .i64 k,.int .i64 n1,.string s] 32);have hb2:=aD (W.alloc (.cells #[.int .i64 k,.int .i64 n1,.string s] 32)) (.cells #[.string c.nm,.int .i64 c.kd,.bool c.mu,.string c.tgt] 95);have k2:=heap_alloc_new (W.alloc (.cells #[.int .i64 k,.int .i64 n1,.string s] 32)) (.cells #[.string c.nm,.int .i64 c.kd,.bool c.mu,.string c.tgt] 95);have k1:=aE hb2 k1;have hmay:=(fun y=>zD k n1 s y hs);have hb2:=aB hb1 hb2;obtain⟨w2,hw2⟩:∃ w2,(W.alloc (.cells #[.int .i64 k,.int .i64 n1,.string s] 32)).alloc (.cells #[.string c.nm,.int .i64 c.kd,.bool c.mu,.string c.tgt] 95)=w2:=⟨_,rfl⟩;obtain⟨B,hB⟩:∃ B,W.heap.size=B:=⟨_,rfl⟩;rw[World.size_alloc] at k2;rw[hw2] at k1 k2 hb2;rw[hB] at k1 k2;have HW:=qAq (qBq hw2 hB);have HK:=qAq (qBq k1 (qBq k2 hb2));unfold inC;simp only;obtain⟨may,hmy⟩:∃ m,mayV k n1 s.data.toList=m:=⟨_,rfl⟩;rw[hmy] at hmay ⊢;have x0:=aA k1 0;have x1:=aA k1 1;have x2:=aA k1 2;have hmay:=hmay w2;clear hw2 hB hb1 hb2 k1 k2 hmy;cases may with
 | false =>
  simp only[Bool.false_and];go_enter Tryz.func71,Tryz.ntmps71;go_upto_region 1 with fail;rw[HW.out.1,HW.out.2];go_wp2_with (go_at_call 106;(with_reducible refine hmay.mono ?_);rintro e w3 ⟨rfl,hb3⟩;have H3:=qAq (aB HK.out.2.2 hb3);clear hb3 hmay);go_ret;exact⟨rfl,H3.out⟩
 | true =>
  by_cases h0:k=0
  ·subst h0;go_enter Tryz.func71,Tryz.ntmps71;go_upto_region 1 with fail;rw[HW.out.1,HW.out.2];go_wp2_with (go_at_call 106;(with_reducible refine hmay.mono ?_);rintro e w3 ⟨rfl,hb3⟩;have H3:=qAq (aB HK.out.2.2 hb3);have y0:=aA (aE hb3 HK.out.1) 0;clear hb3 hmay);go_ret;exact⟨by simp,H3.out⟩
  ·have e0:(k==0)=false:=(by simp[h0]);go_enter Tryz.func71,Tryz.ntmps71;go_upto_region 1 with fail;rw[HW.out.1,HW.out.2];go_wp2_with (go_at_call 106;(with_reducible refine hmay.mono ?_);rintro e w3 ⟨rfl,hb3⟩;have H3:=qAq (aB HK.out.2.2 hb3);have y0:=aA (aE hb3 HK.out.1) 0;have z1:=aA (aE hb3 HK.out.2.1) 1;clear hb3 hmay);go_ret;refine⟨?_,H3.out⟩;have ee:(k==c.kd)=decide (k=c.kd):=(by rw[Bool.eq_iff_iff];simp);show Ending.returned (Value.bool (k==c.kd))=_;rw[decide_eq_false h0,ee]
   simp
theorem zY:(Tryz.prog.info? 99).map (fun i=>(i.zero,i.size,i.bytes))=some (some (.agg #[.int .i64 0,.slice none 0 0]),2,32):=by kernel_rfl
theorem xH (A:List R1) (vs:List Value) (hv:∀ v∈vs,v.oneCell'=true):∀ u∈cellsR A vs,u.oneCell'=true:=by
 intro u hu;unfold cellsR at hu;rw[List.mem_flatMap] at hu;obtain⟨p,hp,hx⟩:=hu;rcases List.mem_cons.1 hx with rfl|hx
 ·rfl
 rw[List.mem_singleton.1 hx];exact hv _ (List.of_mem_zip hp).2
theorem zZ (y:World) {v:Value} {m:Nat} {xs:List Value} (hr:HRow y 0 99 2 v m xs) (hm:m+1<=1000000) (id:Int) (u:Value) (hu:u.oneCell'=true) :
  ∃ g cap w',(Builtin.append_ #[92,92] 92 #[v,.slice (some ⟨y.heap.size,0,none⟩) 1 1]).run Tryz.prog (y.alloc (.cells #[.int .i64 id,u] 99))=.ok (.slice (some ⟨g,0,none⟩) (m+1) cap) w' /\
   HRow w' 0 99 2 (.slice (some ⟨g,0,none⟩) (m+1) cap) (m+1) (xs++[.int .i64 id,u])/\y.grownBy w' v.ownBlock/\(v.ownBlock=some g∨y.heap.size<=g) :=
 app_one Tryz.underlying92 zY rfl (by decide) (by decide) y 0 hr hm (Nat.zero_le _) #[.int .i64 id,u] rfl (by
  intro x hx;rcases List.mem_cons.1 hx with rfl|hx
  ·rfl
  ·rw[List.mem_singleton.1 hx];exact hu)
namespace Par
theorem gives_append {P:Program} {ops:Array Oper} {A:Act} {R:Value->World->Prop} {o:Oper} {w w':World} {vs vx v':Value} (hgd:o.guard=none) (s x:Operand) (t u:TypeId)
  (ho:o.op=.call { callee:=.builtin .append,args:=#[s,x],argTypes:=#[t,u] }) (hs:A.eval s=vs) (hx:A.eval x=vx)
  (hr:(Builtin.append_ #[t,u] o.type #[vs,vx]).run P w=.ok v' w') (h:R v' w'):GivesW P ops A R o w:=by
 have hw:Region.wanted o (yielded ops A.tmps)=true:=(by simp[Region.wanted,hgd]);unfold GivesW;rw[if_pos hw];unfold execOp;simp only[ho,resolve,invoke,builtin,Sem.run_bind,Sem.run_pure,Result.andThen_ok,List.map_toArray,List.map_cons,List.map_nil,hs,hx,hr];exact h
end Par
structure IJ (W0:World) (E:Nat->Value) (rv:Value) (n:Nat) (xs:List Value) (id:Int) (vals:List T3) (l:Nat->Bool) (vs:Nat->Value) (w:World):Prop where
 gb:W0.grownBy w rv.ownBlock
 f0:l 17=false->Below W0.heap.size W0 w
 ev:∀ j,j<14∨j=18->l j=true->vs j=E j
 f14:l 14=true->∃ g c,vs 14=.slice (some ⟨g,0,none⟩) vals.length c/\HRow w 0 32 3 (.slice (some ⟨g,0,none⟩) vals.length c) vals.length (cells3 vals)/\W0.heap.size<=g
 f15:l 15=true->vs 15=.agg #[.int .i64 id,vs 14]
 f16:l 16=true->l 17=false->∃ y,w=y.alloc (.cells #[.int .i64 id,vs 14] 99)/\vs 16=.slice (some ⟨y.heap.size,0,none⟩) 1 1/\Below W0.heap.size W0 y/\∀ q,(vs 14).ownBlock=some q->q<y.heap.size
 f17:l 17=true->∃ g cap,vs 17=.slice (some ⟨g,0,none⟩) (n+1) cap/\HRow w 0 99 2 (.slice (some ⟨g,0,none⟩) (n+1) cap) (n+1) (xs++[.int .i64 id,vs 14])/\(rv.ownBlock=some g∨W0.heap.size<=g)/\∀ q,(vs 14).ownBlock=some q->q≠g
theorem cZ {W0 w:World} {o:Option Nat} (h:Below W0.heap.size W0 w):W0.grownBy w o:=⟨h.os,h.tape,h.output,h.size,fun q hq _=>h.block q hq⟩
section
open Par
variable {W0 w w':World} {E:Nat->Value} {rv:Value} {n:Nat} {xs:List Value} {id:Int} {vals:List T3} {l:Nat->Bool} {vs:Nat->Value}
theorem IJ.up (h:IJ W0 E rv n xs id vals l vs w) (i:Nat) (hi:i<14∨i=18):IJ W0 E rv n xs id vals (upB l i) (upV vs i (E i)) w:=by
 have k:∀ j,j=14∨j=15∨j=16∨j=17->upB l i j=l j/\upV vs i (E i) j=vs j:=(fun j hj=>⟨aI (by omega),aJ (by omega)⟩);refine⟨h.gb,fun hl=>h.f0 ((k 17 (by simp)).1▸hl),fun j hj hl=>?_,fun hl=>?_,fun hl=>?_,fun h1 h2=>?_,fun hl=>?_⟩
 ·by_cases e:j=i
  ·subst e;rw[aS]
  rw[aJ e];rw[aI e] at hl;exact h.ev j hj hl
 ·rw[(k 14 (by simp)).1] at hl;rw[(k 14 (by simp)).2];exact h.f14 hl
 ·rw[(k 15 (by simp)).1] at hl;rw[(k 15 (by simp)).2,(k 14 (by simp)).2];exact h.f15 hl
 ·rw[(k 16 (by simp)).1] at h1;rw[(k 17 (by simp)).1] at h2;rw[(k 16 (by simp)).2,(k 14 (by simp)).2];exact h.f16 h1 h2
 rw[(k 17 (by simp)).1] at hl;rw[(k 17 (by simp)).2,(k 14 (by simp)).2];exact h.f17 hl
theorem IJ.s14 (h:IJ W0 E rv n xs id vals l vs w) (h15:l 15=false) (h16:l 16=false) (h17:l 17=false) {g c:Nat} (hr:HRow w' w.heap.size 32 3 (.slice (some ⟨g,0,none⟩) vals.length c) vals.length (cells3 vals)) (hb:Below w.heap.size w w') :
  IJ W0 E rv n xs id vals (upB l 14) (upV vs 14 (.slice (some ⟨g,0,none⟩) vals.length c)) w':=by
 have hb2:=aB (h.f0 h17) hb;refine⟨cZ hb2,fun _=>hb2,fun j hj hl=>?_,fun _=>⟨g,c,aS,HRow.mono hr (Nat.zero_le _),Nat.le_trans (h.f0 h17).size (HRow.lt hr g rfl).1⟩,fun hl=>?_,fun hl=>?_,fun hl=>?_⟩
 ·rw[aJ (by omega)];rw[aI (by omega)] at hl;exact h.ev j hj hl
 ·rw[aI (by decide),h15] at hl;cases hl
 ·rw[aI (by decide),h16] at hl;cases hl
 rw[aI (by decide),h17] at hl;cases hl
theorem IJ.s15 (h:IJ W0 E rv n xs id vals l vs w) (h16:l 16=false) (h17:l 17=false):IJ W0 E rv n xs id vals (upB l 15) (upV vs 15 (.agg #[.int .i64 id,vs 14])) w:=by
 refine⟨h.gb,fun _=>h.f0 h17,fun j hj hl=>?_,fun hl=>?_,fun _=>?_,fun hl=>?_,fun hl=>?_⟩
 ·rw[aJ (by omega)];rw[aI (by omega)] at hl;exact h.ev j hj hl
 ·rw[aI (by decide)] at hl;rw[aJ (by decide)];exact h.f14 hl
 ·rw[aS,aJ (by decide)]
 ·rw[aI (by decide),h16] at hl;cases hl
 rw[aI (by decide),h17] at hl;cases hl
theorem IJ.s16 (h:IJ W0 E rv n xs id vals l vs w) (h14:l 14=true) (h17:l 17=false):IJ W0 E rv n xs id vals (upB l 16) (upV vs 16 (.slice (some ⟨w.heap.size,0,none⟩) 1 1)) (w.alloc (.cells #[.int .i64 id,vs 14] 99)):=by
 have hb2:=aB (h.f0 h17) (aD w (.cells #[.int .i64 id,vs 14] 99));obtain⟨g,c,e,h1,h2⟩:=h.f14 h14;refine⟨cZ hb2,fun _=>hb2,fun j hj hl=>?_,fun hl=>?_,fun hl=>?_,fun _ _=>⟨w,?_,aS,h.f0 h17,fun q hq=>?_⟩,fun hl=>?_⟩
 ·rw[aJ (by omega)];rw[aI (by omega)] at hl;exact h.ev j hj hl
 ·rw[aJ (by decide)];exact⟨g,c,e,h1.later (aD _ _),h2⟩
 ·rw[aI (by decide)] at hl;rw[aJ (by decide),aJ (by decide)];exact h.f15 hl
 ·rw[aJ (by decide)]
 ·rw[aJ (by decide),e] at hq;exact (HRow.lt h1 q hq).2
 rw[aI (by decide),h17] at hl;cases hl
theorem IJ.s17 (h:IJ W0 E rv n xs id vals l vs w) (h14:l 14=true) (hW:HRow W0 0 99 2 rv n xs) {y:World} {v:Value} (h16:w=y.alloc (.cells #[.int .i64 id,vs 14] 99)) (hy:Below W0.heap.size W0 y) (h14y:∀ q,(vs 14).ownBlock=some q->q<y.heap.size) {g cap:Nat}
  (hv:v=.slice (some ⟨g,0,none⟩) (n+1) cap) (hr:HRow w' 0 99 2 (.slice (some ⟨g,0,none⟩) (n+1) cap) (n+1) (xs++[.int .i64 id,vs 14])) (hg:y.grownBy w' rv.ownBlock) (ho:rv.ownBlock=some g∨y.heap.size<=g) :
  IJ W0 E rv n xs id vals (upB l 17) (upV vs 17 v) w':=by
 obtain⟨g14,c,e,h1,h2⟩:=h.f14 h14;have hrl:∀ q,rv.ownBlock=some q->q<W0.heap.size:=(fun q hq=>(HRow.lt hW q hq).2);have hlt:g14<y.heap.size:=h14y g14 (by rw[e];rfl);have hgb:W0.grownBy w' rv.ownBlock:=⟨hg.os.trans hy.os,hg.tape.trans hy.tape,hg.output.trans hy.output,Nat.le_trans hy.size hg.size,fun q hq hn=>(hg.block q (Nat.lt_of_lt_of_le hq hy.size) hn).trans (hy.block q hq)⟩;refine⟨hgb,fun hl=>?_,fun j hj hl=>?_,fun hl=>?_,fun hl=>?_,fun _ hl=>?_,fun _=>⟨g,cap,aS.trans hv,?_,ho.imp (fun h=>h) (fun h=>Nat.le_trans hy.size h),fun q hq e2=>?_⟩⟩
 ·rw[bW] at hl;cases hl
 ·rw[aJ (by omega)];rw[aI (by omega)] at hl;exact h.ev j hj hl
 ·rw[aJ (by decide)];refine⟨g14,c,e,h1.of (fun k hk=>?_),h2⟩;cases hk;rw[hg.block g14 hlt (fun e=>by have:=hrl g14 e.symm;omega),h16];exact (aD y _).block g14 hlt |>.symm
 ·rw[aI (by decide)] at hl;rw[aJ (by decide),aJ (by decide)];exact h.f15 hl
 ·rw[bW] at hl;cases hl
 ·rw[aJ (by decide)];exact hr
 rw[aJ (by decide),e] at hq;cases hq;subst e2;rcases ho with h3|h3
 ·have:=hrl g14 h3;omega
 exact absurd hlt (Nat.not_lt.2 h3)
end
section
variable {W:World} {b:Nat} {ts:List T} {tt:List RT} {i:NI} {O:Nat->Nat} {t:Nat} {y:RT}
theorem aFg {S:Nat->Prop} {vv:Value} {vals:List T3} (h:DbN W b ts tt i O) (ht:t<ts.length) (hy:tt[t]?=some y) (hv:InV S W vv vals) (hs:∀ x∈vals,x.2.2.size<=maxLen) (hc:ts[t].cols.length<=1000) (hl:vals.length<=1000000) (hno:insE ts[t] vals≠0) :
  Calls Tryz.prog 38 #[.pointer (some ⟨b,0,none⟩),.int .i64 (t:Int),vv] W fun e w'=>e=.returned (.tuple #[.int .i64 0,.int .i64 (insE ts[t] vals)])/\Below W.heap.size W w':=by
 obtain⟨⟨gs,cs,go,co,gn,cn,pc,kc,pd,kd0⟩,_,_,_,_,_,_,hR⟩:=h.reads ht hy;obtain⟨T0,hT0⟩:∃ T0,ts[t]'ht=T0:=⟨_,rfl⟩;simp only[hT0] at hR hc hno ⊢;obtain⟨mt',hmt⟩:∃ m,ts.length=m:=⟨_,rfl⟩;have hti:(t:Int)<(mt':Int):=(by omega);have htn:t<mt':=by omega
 have hF:∀ w,Below W.heap.size W w->w.cell? ⟨b,0,none⟩=some (.slice (some ⟨gs,0,none⟩) mt' cs)/\w.cell? ⟨gs,t*4+1,none⟩=some (.slice pc T0.cols.length kc)/\b<w.heap.size/\gs<w.heap.size/\RdC w (.slice pc T0.cols.length kc) T0.cols:=fun w hb=>by
  have k:=hR w hb;exact⟨by rw[<- hmt];exact k.b0,k.s1,k.bl,k.sl,k.rd⟩
 obtain⟨p,cap,rfl,_,_⟩:=hv.slice;obtain⟨n,hn⟩:∃ n,vals.length=n:=⟨_,rfl⟩;obtain⟨nc,hnc⟩:∃ n,T0.cols.length=n:=⟨_,rfl⟩;have hni:(n:Int)<=1000000:=(by omega);have hnci:(nc:Int)<=1000:=(by omega);obtain⟨d1,d2,d3,d4,_⟩:=hF W (Below.refl _ _);rw[hnc] at d2;by_cases hne:vals.length=T0.cols.length
 ·have hok:okVals T0 vals=false:=by
   cases h1:okVals T0 vals with
   | false=>rfl
   | true=>exact absurd (by unfold insE;rw[if_neg (by omega),h1];rfl) hno
  have hE:insE T0 vals=4:=(by unfold insE;rw[if_neg (by omega),hok];rfl);rw[hE,hn];obtain rfl:n=nc:=(by omega);have HF:=qAq hF;have HV:=qAq hv;have HS:=qAq hs;have HN:=qAq (qBq hn (qBq hnc hok));clear h hF hv hs hno hE hok hn hc hl hne hy hmt hR hT0;go_enter Tryz.func38,Tryz.ntmps38;go_wp2_with fail;go_loopg [8] (n+1) (fun gh jv w=>∃ (j:Nat),jv=.int .i64 (j:Int)/\j<=n/\n+1<=j+gh/\(∀ m,m<j->cOk T0 vals m=true)/\Below W.heap.size W w)
  case atStart=>exact⟨0,rfl,Nat.zero_le _,by omega,fun m hm=>absurd hm (Nat.not_lt_zero m),Below.refl _ _⟩
  obtain⟨j,rfl,hj,hg,hA,hB⟩:=hrel;by_cases hlt:j<n
  ·have hji:(j:Int)<(n:Int):=(by omega);have hjc:j<T0.cols.length:=(by rw[HN.out.2.1];exact hlt);have hjv:j<vals.length:=(by rw[HN.out.1];exact hlt);obtain⟨b1,o1,rfl,_,y⟩:=(HV.out.later hB).val hjv;obtain⟨e1,e2,e3,e4,e5⟩:=HF.out wr hB;obtain⟨b2,o2,rfl,_,z⟩:=RdC.col e5 hjc;obtain⟨u,hu⟩:∃ u,vals[j]=u:=⟨_,rfl⟩;obtain⟨c,hcc⟩:∃ c,T0.cols[j]=c:=⟨_,rfl⟩;have hsz:=HS.out _ (List.getElem_mem hjv);rw[hu] at y hsz;rw[hcc] at z;rw[HN.out.2.1] at e2;have hcok:cOk T0 vals j=inC c.kd u:=(by rw[qY hjc hjv,hu,hcc]);have tr0:∀ w,Below wr.heap.size wr w->∀ {a:Addr} {v:Value},wr.cell? a=some v->w.cell? a=some v:=fun w hb {a v} h=>(World.cell?_of_block (w:=wr) (hb.block _ (World.block_lt_of_cell? _ _ h))).trans h
   have HC:Hid (∀ w,Below wr.heap.size wr w->(w.cell? ⟨b1,o1+j*3,none⟩=some (.int .i64 u.1)/\w.cell? ⟨b1,o1+j*3+1,none⟩=some (.int .i64 u.2.1)/\w.cell? ⟨b1,o1+j*3+2,none⟩=some (.string u.2.2)) /\
     (w.cell? ⟨b,0,none⟩=some (.slice (some ⟨gs,0,none⟩) mt' cs)/\w.cell? ⟨gs,t*4+1,none⟩=some (.slice (some ⟨b2,o2,none⟩) n kc))/\(b<w.heap.size/\gs<w.heap.size) /\
     (w.cell? ⟨b2,o2+j*4,none⟩=some (.string c.nm)/\w.cell? ⟨b2,o2+j*4+1,none⟩=some (.int .i64 c.kd)/\w.cell? ⟨b2,o2+j*4+2,none⟩=some (.bool c.mu)/\w.cell? ⟨b2,o2+j*4+3,none⟩=some (.string c.tgt))):=qAq (fun w hb =>
    ⟨⟨tr0 w hb y.1,tr0 w hb y.2.1,tr0 w hb y.2.2⟩,⟨tr0 w hb e1,tr0 w hb e2⟩,⟨Nat.lt_of_lt_of_le e3 hb.size,Nat.lt_of_lt_of_le e4 hb.size⟩,⟨tr0 w hb z.1,tr0 w hb z.2.1,tr0 w hb z.2.2.1,tr0 w hb z.2.2.2⟩⟩)
   have htyp:=(fun w=>iD u.1 u.2.1 u.2.2 c w hsz);have HB:=qAq (qBq hB (qBq hA hcok));clear hB hA y z e1 e2 e3 e4 e5 hu hcc hsz tr0 hcok d1 d2 d3 d4;go_upto_region 6 with fail;refine Par.wp_region_par 15 [.slice (some ⟨b1,o1,none⟩) n cap,.int .i64 ((j:Int)),.pointer (some ⟨b1,o1+j*3,none⟩),.agg #[.int .i64 (u.1),.int .i64 (u.2.1),.string (u.2.2)],.pointer (some ⟨b,0,none⟩),.pointer (some ⟨b,0,none⟩),.pointer (some ⟨b,0,none⟩),.slice (some ⟨gs,0,none⟩) mt' cs,.int .i64 ((t:Int)),.pointer (some ⟨gs,t*4,none⟩),.pointer (some ⟨gs,t*4+1,none⟩),.slice (some ⟨b2,o2,none⟩) n kc,.int .i64 ((j:Int)),.pointer (some ⟨b2,o2+j*4,none⟩),.agg #[.string c.nm,.int .i64 c.kd,.bool c.mu,.string c.tgt]] (fun w=>Below wr.heap.size wr w) ?A1 ?hm1 ?hB1 ?hA1 ((aF wr)) ?hop1 ?hT1
   case hm1=>kernel_rfl
   case hB1=>kernel_rfl
   case hA1 =>
    simp only[Par.putA,Par.dstAt,Act.put,qDq,qEq,qFq,qLq,qGq,qHq,qIq,qJq,qKq];rfl
   case hop1 =>
    simp only[qMq,List.take_zero,Par.GiveAll,and_true];and_intros<;>intro w' hR<;>have HR:=qAq hR
    rotate_left 3;have x0:=(HC.out w' hR).1.1;have x1:=(HC.out w' hR).1.2.1;have x2:=(HC.out w' hR).1.2.2;rotate_left 2;have zl:=(HC.out w' hR).2.2.1.1;rotate_left;have zl:=(HC.out w' hR).2.2.1.1;rotate_left;have x0:=(HC.out w' hR).2.1.1;rotate_left 3;have zl:=(HC.out w' hR).2.2.1.2;rotate_left;have x0:=(HC.out w' hR).2.1.2;rotate_left 3;have x0:=(HC.out w' hR).2.2.2.1;have x1:=(HC.out w' hR).2.2.2.2.1;have x2:=(HC.out w' hR).2.2.2.2.2.1;have x3:=(HC.out w' hR).2.2.2.2.2.2;rotate_left
    all_goals(clear hR;simp only[Par.Gives];go_simp;all_goals exact HR.out)
   intro w' hR;simp only[qNq,List.drop_zero];have HR:=qAq hR;have htyp:=htyp w';clear hR;cases hin:inC c.kd u
   ·rw[show (u.1,u.2.1,u.2.2)=u from rfl,hin] at htyp;clear hin;go_wp2_with (go_at_call 71;(with_reducible refine htyp.mono ?_);rintro e w4 ⟨rfl,hb4⟩;have H4:=qAq (aB HB.out.1 (HR.out.trans (hb4.mono HR.out.size)));clear htyp hb4);go_ret2;exact⟨rfl,H4.out⟩
   rw[show (u.1,u.2.1,u.2.2)=u from rfl,hin] at htyp;have HI:=qAq hin;clear hin;go_wp2_with (go_at_call 71;(with_reducible refine htyp.mono ?_);rintro e w4 ⟨rfl,hb4⟩;have H4:=qAq (aB HB.out.1 (HR.out.trans (hb4.mono HR.out.size)));clear htyp hb4);go_roundg (n-j)
   case measure=>omega
   case rel=>exact⟨j+1,rfl,by omega,by omega,fun m hm=>(by
    by_cases em:m=j
    ·rw[em,HB.out.2.2];exact HI.out
    exact HB.out.2.1 m (by omega)),H4.out⟩
  exfalso;have hok:=HN.out.2.2;have:okVals T0 vals=true:=(jY fun m hm=>hA m (by have:=HN.out.2.1;omega));rw[this] at hok;cases hok
 have hE:insE T0 vals=1:=(by unfold insE;rw[if_pos hne]);have hd:((n:Int) != (nc:Int))=true:=(by simp;omega);rw[hE,hn];clear h hF hv hs hno hE hn hnc hne hc hl hy hmt hR hT0;go_enter Tryz.func38,Tryz.ntmps38;go_wp2_with fail;go_ret2;exact⟨rfl,Below.refl _ _⟩
theorem aCW {S:Nat->Prop} {vv:Value} {vals:List T3} (h:DbN W b ts tt i O) (ht:t<ts.length) (hy:tt[t]?=some y) (hv:InV S W vv vals) (hS:∀ q,S q->O q=0) (hs:∀ x∈vals,x.2.2.size<=maxLen) (hc:ts[t].cols.length<=1000) (h0:0<ts[t].cols.length) (hl:vals.length<=1000000) (hAl:y.A.length<=100000) (hnx:y.nx<=100000) (hyes:insE ts[t] vals=0) :
  Calls Tryz.prog 38 #[.pointer (some ⟨b,0,none⟩),.int .i64 (t:Int),vv] W fun e w'=>e=.returned (.tuple #[.int .i64 (y.nx:Int),.int .i64 0])/\∃ x O',DbN w' b ts (tt.set t x) i O'/\x.nx=y.nx+1/\x.A=y.A++[((y.nx:Int),vals)]/\Ext W O O'/\Tn (fun q=>O q≠0) W w':=by
 obtain⟨⟨gs,cs,go,co,gn,cn,pc,kc,pd,kd0⟩,_,o1,n1,og3,og4,og2,hR⟩:=h.reads ht hy;obtain⟨T0,hT0⟩:∃ T0,ts[t]'ht=T0:=⟨_,rfl⟩;simp only[hT0] at hR hc h0 hyes;obtain⟨mt',hmt⟩:∃ m,ts.length=m:=⟨_,rfl⟩;have hti:(t:Int)<(mt':Int):=(by omega);have htn:t<mt':=by omega
 have hF:∀ w,Below W.heap.size W w->w.cell? ⟨b,0,none⟩=some (.slice (some ⟨gs,0,none⟩) mt' cs)/\w.cell? ⟨gs,t*4+1,none⟩=some (.slice pc T0.cols.length kc)/\b<w.heap.size/\gs<w.heap.size/\RdC w (.slice pc T0.cols.length kc) T0.cols:=fun w hb=>by
  have k:=hR w hb;exact⟨by rw[<- hmt];exact k.b0,k.s1,k.bl,k.sl,k.rd⟩
 have hNx:Hid (∀ w,Below W.heap.size W w->w.cell? ⟨b,2,none⟩=some (.slice (some ⟨gn,0,none⟩) mt' cn)/\w.cell? ⟨gn,t,none⟩=some (.int .i64 (y.nx:Int))/\w.frozen? ⟨gn,t,none⟩=false/\gn<w.heap.size):=qAq (fun w hb=>by
  have k:=hR w hb;exact⟨by rw[<- hmt];exact k.b2,k.n0,k.nf,k.nl⟩)
 obtain⟨next,hnext⟩:∃ n,y.nx=n:=⟨_,rfl⟩;simp only[hnext] at hNx;obtain⟨p,cap,rfl,_,_⟩:=hv.slice;obtain⟨n,hn⟩:∃ n,vals.length=n:=⟨_,rfl⟩;obtain⟨nc,hnc⟩:∃ n,T0.cols.length=n:=⟨_,rfl⟩;have hni:(n:Int)<=1000000:=(by omega);have hnci:(nc:Int)<=1000:=(by omega);obtain⟨d1,d2,d3,d4,_⟩:=hF W (Below.refl _ _);rw[hnc] at d2
 have hne:vals.length=T0.cols.length:=by
  by_cases e:vals.length=T0.cols.length
  ·exact e
  unfold insE at hyes;rw[if_pos e] at hyes;cases hyes
 have hok:okVals T0 vals=true:=by
  unfold insE at hyes;rw[if_neg (by omega)] at hyes;cases h1:okVals T0 vals with
  | true=>rfl
  | false=>rw[h1] at hyes;cases hyes
 rw[hn];obtain rfl:n=nc:=(by omega);have HF:=qAq hF;have HV:=qAq (qBq hv hS);have HSz:=qAq hs;have HN:=qAq (qBq hn (qBq hnc hok));have HD:=qAq (qBq h (qBq hc (qBq h0 (qBq hAl (qBq o1 (qBq n1 (qBq og3 (qBq hmt (qBq hy hnext)))))))));have HT:=qAq ht;have HT0:=qAq hT0;have hnx2:(next:Int)<=100000:=(by omega);rw[hnext];clear h hF hv hs hyes hok hn hc hl hne hS h0 hAl hR hy o1 n1 hnx og2 og3 og4 hmt hnext hT0;go_enter Tryz.func38,Tryz.ntmps38;go_wp2_with fail;go_loopg [8] (n+1) (fun gh jv w=>∃ (j:Nat),jv=.int .i64 (j:Int)/\j<=n/\n+1<=j+gh/\Below W.heap.size W w)
 case atStart=>exact⟨0,rfl,Nat.zero_le _,by omega,Below.refl _ _⟩
 obtain⟨j,rfl,hj,hg,hB⟩:=hrel;by_cases hlt:j<n
 ·have hji:(j:Int)<(n:Int):=(by omega);have hjc:j<T0.cols.length:=(by rw[HN.out.2.1];exact hlt);have hjv:j<vals.length:=(by rw[HN.out.1];exact hlt);obtain⟨b1,o1,rfl,_,y⟩:=(HV.out.1.later hB).val hjv;obtain⟨e1,e2,e3,e4,e5⟩:=HF.out wr hB;obtain⟨b2,o2,rfl,_,z⟩:=RdC.col e5 hjc;obtain⟨u,hu⟩:∃ u,vals[j]=u:=⟨_,rfl⟩;obtain⟨c,hcc⟩:∃ c,T0.cols[j]=c:=⟨_,rfl⟩;have hsz:=HSz.out _ (List.getElem_mem hjv);rw[hu] at y hsz;rw[hcc] at z;rw[HN.out.2.1] at e2
  have hcok:inC c.kd u=true:=by
   have h1:=qY hjc hjv;rw[hu,hcc] at h1;rw[<- h1];have h2:=HN.out.2.2;unfold okVals at h2;exact List.all_eq_true.1 h2 j (List.mem_range.2 hjc)
  have tr0:∀ w,Below wr.heap.size wr w->∀ {a:Addr} {v:Value},wr.cell? a=some v->w.cell? a=some v:=fun w hb {a v} h=>(World.cell?_of_block (w:=wr) (hb.block _ (World.block_lt_of_cell? _ _ h))).trans h
  have HC:Hid (∀ w,Below wr.heap.size wr w->(w.cell? ⟨b1,o1+j*3,none⟩=some (.int .i64 u.1)/\w.cell? ⟨b1,o1+j*3+1,none⟩=some (.int .i64 u.2.1)/\w.cell? ⟨b1,o1+j*3+2,none⟩=some (.string u.2.2)) /\
    (w.cell? ⟨b,0,none⟩=some (.slice (some ⟨gs,0,none⟩) mt' cs)/\w.cell? ⟨gs,t*4+1,none⟩=some (.slice (some ⟨b2,o2,none⟩) n kc))/\(b<w.heap.size/\gs<w.heap.size) /\
    (w.cell? ⟨b2,o2+j*4,none⟩=some (.string c.nm)/\w.cell? ⟨b2,o2+j*4+1,none⟩=some (.int .i64 c.kd)/\w.cell? ⟨b2,o2+j*4+2,none⟩=some (.bool c.mu)/\w.cell? ⟨b2,o2+j*4+3,none⟩=some (.string c.tgt))):=qAq (fun w hb =>
   ⟨⟨tr0 w hb y.1,tr0 w hb y.2.1,tr0 w hb y.2.2⟩,⟨tr0 w hb e1,tr0 w hb e2⟩,⟨Nat.lt_of_lt_of_le e3 hb.size,Nat.lt_of_lt_of_le e4 hb.size⟩,⟨tr0 w hb z.1,tr0 w hb z.2.1,tr0 w hb z.2.2.1,tr0 w hb z.2.2.2⟩⟩)
  have htyp:=(fun w=>iD u.1 u.2.1 u.2.2 c w hsz);rw[show (u.1,u.2.1,u.2.2)=u from rfl,hcok] at htyp;have HB:=qAq hB;clear hB y z e1 e2 e3 e4 e5 hu hcc hsz tr0 hcok d1 d2 d3 d4;go_upto_region 6 with fail;refine Par.wp_region_par 15 [.slice (some ⟨b1,o1,none⟩) n cap,.int .i64 ((j:Int)),.pointer (some ⟨b1,o1+j*3,none⟩),.agg #[.int .i64 (u.1),.int .i64 (u.2.1),.string (u.2.2)],.pointer (some ⟨b,0,none⟩),.pointer (some ⟨b,0,none⟩),.pointer (some ⟨b,0,none⟩),.slice (some ⟨gs,0,none⟩) mt' cs,.int .i64 ((t:Int)),.pointer (some ⟨gs,t*4,none⟩),.pointer (some ⟨gs,t*4+1,none⟩),.slice (some ⟨b2,o2,none⟩) n kc,.int .i64 ((j:Int)),.pointer (some ⟨b2,o2+j*4,none⟩),.agg #[.string c.nm,.int .i64 c.kd,.bool c.mu,.string c.tgt]] (fun w=>Below wr.heap.size wr w) ?A2 ?hm2 ?hB2 ?hA2 ((aF wr)) ?hop2 ?hT2
  case hm2=>kernel_rfl
  case hB2=>kernel_rfl
  case hA2 =>
   simp only[Par.putA,Par.dstAt,Act.put,qDq,qEq,qFq,qLq,qGq,qHq,qIq,qJq,qKq];rfl
  case hop2 =>
   simp only[qMq,List.take_zero,Par.GiveAll,and_true];and_intros<;>intro w' hR<;>have HR:=qAq hR
   rotate_left 3;have x0:=(HC.out w' hR).1.1;have x1:=(HC.out w' hR).1.2.1;have x2:=(HC.out w' hR).1.2.2;rotate_left 2;have zl:=(HC.out w' hR).2.2.1.1;rotate_left;have zl:=(HC.out w' hR).2.2.1.1;rotate_left;have x0:=(HC.out w' hR).2.1.1;rotate_left 3;have zl:=(HC.out w' hR).2.2.1.2;rotate_left;have x0:=(HC.out w' hR).2.1.2;rotate_left 3;have x0:=(HC.out w' hR).2.2.2.1;have x1:=(HC.out w' hR).2.2.2.2.1;have x2:=(HC.out w' hR).2.2.2.2.2.1;have x3:=(HC.out w' hR).2.2.2.2.2.2;rotate_left
   all_goals(clear hR;simp only[Par.Gives];go_simp;all_goals exact HR.out)
  intro w' hR;simp only[qNq,List.drop_zero];have HR:=qAq hR;have htyp:=htyp w';clear hR;go_wp2_with (go_at_call 71;(with_reducible refine htyp.mono ?_);rintro e w4 ⟨rfl,hb4⟩;have H4:=qAq (aB HB.out (HR.out.trans (hb4.mono HR.out.size)));clear htyp hb4);go_roundg (n-j)
  case measure=>omega
  exact⟨j+1,rfl,by omega,by omega,H4.out⟩
 obtain rfl:j=n:=(by omega);obtain⟨hD,hc,h0,hAl,o1,n1,og3,hmt,hy,hnext⟩:=HD.out;have ht:=HT.out;have hD:=hD.later hB;obtain⟨n4,n3,n5,n6⟩:=hNx.out wr hB;have n1:i.nv=.slice (some ⟨gn,0,none⟩) ts.length cn:=n1;obtain⟨hD5,ht5⟩:=hD.setnext ht hy n1;rw[hnext] at hD5 ht5;have xl:=aC hD.box;have hv5:=(HV.out.1.later hB).tn ht5 (fun q hq=>fun h=>h (HV.out.2 q hq));have hz5:=ht5.size;have HB:=qAq hB;clear hD n1 d1 d2 d3 d4 hB;go_upto_region 10 with fail;obtain⟨w5,hw5⟩:∃ w5,wr.setCell ⟨gn,t,none⟩ (.int .i64 ((next:Int)+1))=w5:=⟨_,rfl⟩;rw[hw5] at hD5 ht5 hv5 hz5;rw[hw5];clear hw5 n3 n4 n5 n6 xl;have htl:t<tt.length:=(by have:=(List.getElem?_eq_some_iff.1 hy).1;omega);have hy5:(tt.set t { y with nx:=next+1 })[t]?=some { y with nx:=next+1 }:=(by rw[List.getElem?_set,if_pos rfl,if_pos htl]);obtain⟨x5,_,p1,_,_,_,_,hR5⟩:=hD5.reads ht hy5;have hR5:=hR5 w5 (Below.refl _ _);have o1':i.ov=.slice (some ⟨go,0,none⟩) ts.length co:=o1;rw[o1'] at p1;obtain⟨rfl,rfl⟩:go=x5.go/\co=x5.co:=(by injection p1 with p1 _ p2;injection p1 with p1;injection p1 with p1;exact⟨p1,p2⟩);have o3:w5.cell? ⟨x5.go,t,none⟩=some y.rv:=hR5.o0;have o4:w5.cell? ⟨b,1,none⟩=some (.slice (some ⟨x5.go,0,none⟩) mt' x5.co):=(by rw[<- hmt];exact hR5.b1);have o2:=hR5.ol;have xl:=hR5.bl;have hk5:=hD5.ok ht hy5;have hrw:HRow w5 0 99 2 y.rv y.A.length (cellsR y.A y.vs):=hk5.rows;have hrl:∀ q,y.rv.ownBlock=some q->O q=5+2*t:=hk5.orv;have hlo:O x5.go=3:=og3;have hlb:=hD5.o1;have hfz5:=hR5.oF
 have HX:Hid (∀ w,w5.grownBy w y.rv.ownBlock->w.cell? ⟨x5.go,t,none⟩=some y.rv/\w.cell? ⟨b,1,none⟩=some (.slice (some ⟨x5.go,0,none⟩) mt' x5.co)/\b<w.heap.size/\x5.go<w.heap.size/\w.frozen? ⟨x5.go,t,none⟩=false):=qAq (fun w hg=>by
  have hb1:=hg.block x5.go o2 (fun e=>by have:=hrl x5.go e.symm;omega);exact⟨(World.cell?_of_block (w:=w5) hb1).trans o3,(World.cell?_of_block (w:=w5) (hg.block b xl (fun e=>by have:=hrl b e.symm;omega))).trans o4,Nat.lt_of_lt_of_le xl hg.size,Nat.lt_of_lt_of_le o2 hg.size,(World.frozen?_of_block (w:=w5) hb1).trans hfz5⟩)
 obtain⟨go,hgo⟩:∃ g,x5.go=g:=⟨_,rfl⟩;obtain⟨co,hco⟩:∃ g,x5.co=g:=⟨_,rfl⟩;rw[hgo,hco] at HX o1';have HV5:=qAq hv5;have hrng:=hk5.rng;have hrng0:=(HD.out.1.ok ht hy).rng;have HD5:=qAq (qBq hD5 (qBq ht5 (qBq hz5 (qBq hrw (qBq o1' (qBq hy5 hrng0))))));clear hD5 ht5 hv5 hz5 o1 o2 o3 o4 hrw hrl hlo hlb xl hfz5 hk5 hR5 p1 o1' hrng hgo hco hy5 og3;refine Par.wp_region_par4 19 (IJ w5 (fun idx=>[(Value.pointer (some ⟨b,0,none⟩)),(Value.pointer (some ⟨b,0,none⟩)),(Value.pointer (some ⟨b,1,none⟩)),.slice (some ⟨go,0,none⟩) mt' co,(Value.int .i64 ((t:Int))),(Value.pointer (some ⟨b,0,none⟩)),(Value.pointer (some ⟨b,0,none⟩)),(Value.pointer (some ⟨b,1,none⟩)),.slice (some ⟨go,0,none⟩) mt' co,(Value.int .i64 ((t:Int))),(Value.pointer (some ⟨go,t,none⟩)),y.rv,(Value.int .i64 ((next:Int))),.slice p j cap,undef,undef,undef,undef,(Value.pointer (some ⟨go,t,none⟩))].getD idx undef) y.rv y.A.length (cellsR y.A y.vs) (next:Int) vals) ?AA ?hmA ?hBA ?hAA ?hJA ?hopA ?hTA
 case hmA=>kernel_rfl
 case hBA=>kernel_rfl
 case hAA =>
  intro vs;simp only[Par.putA,Par.dstAt,Act.put,qDq,qEq,qFq,qLq,qGq,qHq,qIq];rfl
 case hJA =>
  intro vs;have hd:=aF w5;exact⟨cZ hd,fun _=>hd,fun _ _ h=>(by cases h),fun h=>(by cases h),fun h=>(by cases h),fun h=>(by cases h),fun h=>(by cases h)⟩
 case hopA =>
  simp only[qMq,List.take_zero,Par.GiveAllK,and_true];and_intros<;>intro l vs w hJ hl hd hcl
  ·have HJ:=qAq hJ;obtain⟨y1,y2,y3,y4,y5⟩:=HX.out w hJ.gb;clear hJ hd hcl;simp only[Par.GivesW];go_simp;all_goals exact HJ.out.up 0 (by decide)
  ·have HJ:=qAq hJ;obtain⟨y1,y2,y3,y4,y5⟩:=HX.out w hJ.gb;have d0:vs 0=(Value.pointer (some ⟨b,0,none⟩)):=hJ.ev 0 (by decide) (hd 0 (by kernel_rfl));clear hJ hd hcl;simp only[Par.GivesW,d0];go_simp;all_goals exact HJ.out.up 1 (by decide)
  ·have HJ:=qAq hJ;obtain⟨y1,y2,y3,y4,y5⟩:=HX.out w hJ.gb;have d1:vs 1=(Value.pointer (some ⟨b,0,none⟩)):=hJ.ev 1 (by decide) (hd 1 (by kernel_rfl));clear hJ hd hcl;simp only[Par.GivesW,d1];go_simp;all_goals exact HJ.out.up 2 (by decide)
  ·have HJ:=qAq hJ;obtain⟨y1,y2,y3,y4,y5⟩:=HX.out w hJ.gb;have d2:vs 2=(Value.pointer (some ⟨b,1,none⟩)):=hJ.ev 2 (by decide) (hd 2 (by kernel_rfl));clear hJ hd hcl;simp only[Par.GivesW,d2];go_simp;all_goals exact HJ.out.up 3 (by decide)
  ·have HJ:=qAq hJ;obtain⟨y1,y2,y3,y4,y5⟩:=HX.out w hJ.gb;clear hJ hd hcl;simp only[Par.GivesW];go_simp;all_goals exact HJ.out.up 4 (by decide)
  ·have HJ:=qAq hJ;obtain⟨y1,y2,y3,y4,y5⟩:=HX.out w hJ.gb;clear hJ hd hcl;simp only[Par.GivesW];go_simp;all_goals exact HJ.out.up 5 (by decide)
  ·have HJ:=qAq hJ;obtain⟨y1,y2,y3,y4,y5⟩:=HX.out w hJ.gb;have d5:vs 5=(Value.pointer (some ⟨b,0,none⟩)):=hJ.ev 5 (by decide) (hd 5 (by kernel_rfl));clear hJ hd hcl;simp only[Par.GivesW,d5];go_simp;all_goals exact HJ.out.up 6 (by decide)
  ·have HJ:=qAq hJ;obtain⟨y1,y2,y3,y4,y5⟩:=HX.out w hJ.gb;have d6:vs 6=(Value.pointer (some ⟨b,0,none⟩)):=hJ.ev 6 (by decide) (hd 6 (by kernel_rfl));clear hJ hd hcl;simp only[Par.GivesW,d6];go_simp;all_goals exact HJ.out.up 7 (by decide)
  ·have HJ:=qAq hJ;obtain⟨y1,y2,y3,y4,y5⟩:=HX.out w hJ.gb;have d7:vs 7=(Value.pointer (some ⟨b,1,none⟩)):=hJ.ev 7 (by decide) (hd 7 (by kernel_rfl));clear hJ hd hcl;simp only[Par.GivesW,d7];go_simp;all_goals exact HJ.out.up 8 (by decide)
  ·have HJ:=qAq hJ;obtain⟨y1,y2,y3,y4,y5⟩:=HX.out w hJ.gb;clear hJ hd hcl;simp only[Par.GivesW];go_simp;all_goals exact HJ.out.up 9 (by decide)
  ·have HJ:=qAq hJ;obtain⟨y1,y2,y3,y4,y5⟩:=HX.out w hJ.gb;have d8:vs 8=.slice (some ⟨go,0,none⟩) mt' co:=hJ.ev 8 (by decide) (hd 8 (by kernel_rfl));have d9:vs 9=(Value.int .i64 ((t:Int))):=hJ.ev 9 (by decide) (hd 9 (by kernel_rfl));clear hJ hd hcl;simp only[Par.GivesW,d8,d9];go_simp;all_goals exact HJ.out.up 10 (by decide)
  ·have HJ:=qAq hJ;obtain⟨y1,y2,y3,y4,y5⟩:=HX.out w hJ.gb;have d10:vs 10=(Value.pointer (some ⟨go,t,none⟩)):=hJ.ev 10 (by decide) (hd 10 (by kernel_rfl));clear hJ hd hcl;simp only[Par.GivesW,d10];go_simp;all_goals exact HJ.out.up 11 (by decide)
  ·have HJ:=qAq hJ;obtain⟨y1,y2,y3,y4,y5⟩:=HX.out w hJ.gb;clear hJ hd hcl;simp only[Par.GivesW];go_simp;all_goals exact HJ.out.up 12 (by decide)
  ·have HJ:=qAq hJ;obtain⟨y1,y2,y3,y4,y5⟩:=HX.out w hJ.gb;clear hJ hd hcl;simp only[Par.GivesW];go_simp;all_goals exact HJ.out.up 13 (by decide)
  ·have h15:l 15=false:=(by cases h:l 15 with|false=>rfl|true=>exact absurd (hcl 15 14 (by kernel_rfl) h) (by simp[hl]));have h16:l 16=false:=(by cases h:l 16 with|false=>rfl|true=>exact absurd (hcl 16 15 (by kernel_rfl) h) (by simp[h15]));have h17:l 17=false:=(by cases h:l 17 with|false=>rfl|true=>exact absurd (hcl 17 16 (by kernel_rfl) h) (by simp[h16]));have d13:vs 13=.slice p vals.length cap:=(by rw[HN.out.1];exact hJ.ev 13 (by decide) (hd 13 (by kernel_rfl)));obtain⟨g1,k1,w6,hrun,hw6,hb6⟩:=mZ (HV5.out.later (hJ.f0 h17)) (by rw[HN.out.1,<- HN.out.2.1];exact hc) (by rw[HN.out.1,<- HN.out.2.1];exact h0);exact Par.gives_append rfl (.const (.slice none 0 0)) (.tmp 74) 27 27 rfl rfl d13 hrun (hJ.s14 h15 h16 h17 hw6 hb6)
  ·have h16:l 16=false:=(by cases h:l 16 with|false=>rfl|true=>exact absurd (hcl 16 15 (by kernel_rfl) h) (by simp[hl]));have h17:l 17=false:=(by cases h:l 17 with|false=>rfl|true=>exact absurd (hcl 17 16 (by kernel_rfl) h) (by simp[h16]));have d12:vs 12=(Value.int .i64 ((next:Int))):=hJ.ev 12 (by decide) (hd 12 (by kernel_rfl));obtain⟨g4,c4,e14,r14,z14⟩:=hJ.f14 (hd 14 (by kernel_rfl));have HJ:=qAq (hJ.s15 h16 h17);rw[e14] at HJ;clear hJ hd hcl r14;simp only[Par.GivesW,d12,e14];go_simp;all_goals exact HJ.out
  ·have h17:l 17=false:=(by cases h:l 17 with|false=>rfl|true=>exact absurd (hcl 17 16 (by kernel_rfl) h) (by simp[hl]));have h15:=hd 15 (by kernel_rfl);have d15:=hJ.f15 h15;have h14:=hcl 15 14 (by kernel_rfl) h15;obtain⟨g4,c4,e14,r14,z14⟩:=hJ.f14 h14;have HJ:=qAq (hJ.s16 h14 h17);rw[e14] at HJ d15;clear hJ hd hcl r14;simp only[Par.GivesW,d15];go_simp;all_goals exact HJ.out
  ·have h16:=hd 16 (by kernel_rfl);have h14:=hcl 15 14 (by kernel_rfl) (hcl 16 15 (by kernel_rfl) h16);obtain⟨y0,rfl,e16,hy',h14y⟩:=hJ.f16 h16 hl;obtain⟨g4,c4,e14,r14,z14⟩:=hJ.f14 h14;have d11:vs 11=y.rv:=hJ.ev 11 (by decide) (hd 11 (by kernel_rfl));obtain⟨g,cg,w6,hrun,hr6,hg6,ho6⟩:=zZ y0 (HD5.out.2.2.2.1.later hy') (by omega) (next:Int) (vs 14) (by rw[e14];rfl);refine Par.gives_append rfl (.tmp 72) (.tmp 77) 92 92 rfl d11 e16 hrun (hJ.s17 h14 HD5.out.2.2.2.1 rfl hy' h14y rfl hr6 hg6 ho6)
  have HJ:=qAq hJ;obtain⟨y1,y2,y3,y4,y5⟩:=HX.out w hJ.gb;have d3:vs 3=.slice (some ⟨go,0,none⟩) mt' co:=hJ.ev 3 (by decide) (hd 3 (by kernel_rfl));have d4:vs 4=(Value.int .i64 ((t:Int))):=hJ.ev 4 (by decide) (hd 4 (by kernel_rfl));clear hJ hd hcl;simp only[Par.GivesW,d3,d4];go_simp;all_goals exact HJ.out.up 18 (by decide)
 intro l vs w4 hl hJ;simp only[qNq,List.drop_zero];have d18:vs 18=(Value.pointer (some ⟨go,t,none⟩)):=hJ.ev 18 (by decide) (hl 18 (by decide));obtain⟨g4,c4,e14,r14,z14⟩:=hJ.f14 (hl 14 (by decide));obtain⟨g7,c7,e17,r17,z17,s17⟩:=hJ.f17 (hl 17 (by decide));obtain⟨x1,x2,x3,x4,xf⟩:=HX.out w4 hJ.gb;have hadd:=HD5.out.1.addrow HT.out HD5.out.2.2.2.2.2.1 HD5.out.2.2.2.2.1 (id:=(next:Int)) (vals:=vals) r14 (by rw[HT0.out,HN.out.1,HN.out.2.1]) (e14▸r17) hJ.gb z17 (fun q hq=>⟨by cases hq;exact z14,s17 q (by rw[e14];exact hq)⟩) (fun a ha=>by have:=HD5.out.2.2.2.2.2.2 a ha;rw[hnext] at this;exact this) (by show (next:Int)<((next+1:Nat):Int);omega);have HA:=qAq hadd;simp only[d18,e17,e14];clear hadd hJ hl e14 r14 z14 r17 z17 s17 d18 e17 x2;go_wp2_with fail;go_ret2;obtain⟨O',q1,q2,q3⟩:=HA.out;refine⟨rfl,_,O',by rw[List.set_set] at q1;exact q1,rfl,rfl,fun q hq=>q2 q (by have:=HB.out.size;have:=HD5.out.2.2.1;omega),?_⟩;exact ((Tn.of_below (S:=fun q=>O q≠0) HB.out).trans HD5.out.2.1 (fun _ _ h=>h) (fun _ _ h=>h)).trans q3 (fun _ _ h=>h) (fun _ _ h=>h)
end
