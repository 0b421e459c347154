import Derived.Test.YthlccadnojnkaaaGreatZn25
set_option maxHeartbeats 8000000
set_option maxRecDepth 100000
namespace Go.Proofs.YthlccadnojnkaaaGreat
open Go.Proofs.Tryz
open Go Go.RowKit Go.Proofs Co Co.S
theorem iD(k n1:Int)(s:ByteArray)(c:C)(W:World)(hs:s.size<=maxLen):Calls prog 71 #[.agg #[.int .i64 k,.int .i64 n1,.string s],.agg #[.string c.nm,.int .i64 c.kd,.bool c.mu,.string c.tgt]] W fun e w'=>e=.returned (.bool (lx c.kd (k,n1,s)))/\Below W.heap.size W w':=by
 have j:=aD W (.cells #[.int .i64 k,.int .i64 n1,.string s] 32);have f:=z7 W (.cells #[.int .i64 k,.int .i64 n1,.string s] 32);have d:=aD (W.alloc (.cells #[.int .i64 k,.int .i64 n1,.string s] 32)) (.cells #[.string c.nm,.int .i64 c.kd,.bool c.mu,.string c.tgt] 95);have l:=z7 (W.alloc (.cells #[.int .i64 k,.int .i64 n1,.string s] 32)) (.cells #[.string c.nm,.int .i64 c.kd,.bool c.mu,.string c.tgt] 95);have f:=aE d f;have a:=(fun y=>zD k n1 s y hs);have d:=aB j d;obtain⟨t,g⟩:=ag ((W.alloc (.cells #[.int .i64 k,.int .i64 n1,.string s] 32)).alloc (.cells #[.string c.nm,.int .i64 c.kd,.bool c.mu,.string c.tgt] 95));obtain⟨B,o⟩:=ag W.heap.size;rw[zj]at l;rw[g]at f l d;rw[o]at f l;have h:=aa (ab g o);have i:=aa (ab f (ab l d));unfold lx;simp only;obtain⟨p,m⟩:=ag (jf k n1 s.data.toList);rw[m]at a ⊢;have w:=aA f 0;have x:=aA f 1;have z:=aA f 2;have a:=a t;clear g o j d f l m;cases p with
 | false =>
  simp only[Bool.false_and];go_enter func71,ntmps71;go_upto_region 1 with fail;rw[h.1,h.2];go_wp2_with (go_at_call 106;refine a.mono ?_;rintro e r⟨rfl,b⟩;have n:=aa (aB i.2.2 b);clear b a);go_ret;exact⟨rfl,n.out⟩
 | true =>
  by_cases q:k=0
  ·subst q;go_enter func71,ntmps71;go_upto_region 1 with fail;rw[h.1,h.2];go_wp2_with (go_at_call 106;refine a.mono ?_;rintro e r⟨rfl,b⟩;have n:=aa (aB i.2.2 b);have u:=aA (aE b i.1) 0;clear b a);go_ret;exact⟨by simp,n.out⟩
  ·have e0:(k==0)=false:=(by simp[q]);go_enter func71,ntmps71;go_upto_region 1 with fail;rw[h.1,h.2];go_wp2_with (go_at_call 106;refine a.mono ?_;rintro e r⟨rfl,b⟩;have n:=aa (aB i.2.2 b);have u:=aA (aE b i.1) 0;have A:=aA (aE b i.2.1) 1;clear b a);go_ret;refine⟨?_,n.out⟩;have v:(k==c.kd)=decide (k=c.kd):=(by rw[vf];simp);show Ending.returned (.bool (k==c.kd))=_;rw[yw q,v]
   simp
theorem zY:(prog.info? 99).map (fun i=>(i.zero,i.size,i.bytes))=some (some (.agg #[.int .i64 0,.slice none 0 0]),2,32):=by kernel_rfl
theorem xH(A:List R1)(vs:List Value)(hv:∀v∈vs,v.oneCell'=true):∀u∈az A vs,u.oneCell'=true:=by
 intro u a;unfold az at a;rw[List.mem_flatMap]at a;obtain⟨p,c,b⟩:=a;rcases List.mem_cons.1 b with rfl|b
 ·rfl
 rw[List.mem_singleton.1 b];exact hv _ (List.of_mem_zip c).2
theorem zZ(y:World){v:Value}{m:Nat}{xs:List Value}(hr:ac y 0 99 2 v m xs)(hm:m+1<=1000000)(id:Int)(u:Value)(hu:u.oneCell'=true):∃g a w',(Builtin.append_ #[92,92] 92 #[v,.slice (some ⟨y.heap.size,0,none⟩) 1 1]).run prog (y.alloc (.cells #[.int .i64 id,u] 99))=.ok (.slice (some ⟨g,0,none⟩) (m+1) a) w'/\ac w' 0 99 2 (.slice (some ⟨g,0,none⟩) (m+1) a) (m+1) (xs++[.int .i64 id,u])/\y.grownBy w' v.ownBlock/\(v.ownBlock=some g∨y.heap.size<=g):=
 jr underlying92 zY rfl (by decide) (by decide) y 0 hr hm (zh _) #[.int .i64 id,u] rfl (by
  intro x b;rcases List.mem_cons.1 b with rfl|b
  ·rfl
  ·rw[List.mem_singleton.1 b];exact hu)
namespace Par
theorem bf{P:Program}{ops:Array Oper}{A:Act}{R:Value->World->Prop}{o:Oper}{w w':World}{vs vx v':Value}(hgd:o.guard=none)(s x:Operand)(t u:TypeId)(ho:o.op=.call { callee:=.builtin .append,args:=#[s,x],argTypes:=#[t,u] })(hs:A.eval s=vs)(hx:A.eval x=vx)(hr:(Builtin.append_ #[t,u] o.type #[vs,vx]).run P w=.ok v' w')(h:R v' w'):af P ops A R o w:=by
 have a:Region.wanted o (yielded ops A.tmps)=true:=(by simp[Region.wanted,hgd]);unfold af;rw[zv a];unfold execOp;simp only[ho,resolve,invoke,builtin,Sem.run_bind,Sem.run_pure,Result.andThen_ok,List.map_toArray,List.map_cons,List.map_nil,hs,hx,hr];exact h
end Par
structure IJ (W0:World) (E:Nat->Value) (rv:Value) (n:Nat) (xs:List Value) (id:Int) (vals:List T3) (l:Nat->Bool) (vs:Nat->Value) (w:World):Prop where
 gb:W0.grownBy w rv.ownBlock
 f0:l 17=false->Below W0.heap.size W0 w
 ev:∀j,j<14∨j=18->l j=true->vs j=E j
 f14:l 14=true->∃g c,vs 14=.slice (some ⟨g,0,none⟩) vals.length c/\ac w 0 32 3 (.slice (some ⟨g,0,none⟩) vals.length c) vals.length (cells3 vals)/\W0.heap.size<=g
 f15:l 15=true->vs 15=.agg #[.int .i64 id,vs 14]
 f16:l 16=true->l 17=false->∃y,w=y.alloc (.cells #[.int .i64 id,vs 14] 99)/\vs 16=.slice (some ⟨y.heap.size,0,none⟩) 1 1/\Below W0.heap.size W0 y/\∀q,(vs 14).ownBlock=some q->q<y.heap.size
 f17:l 17=true->∃g cap,vs 17=.slice (some ⟨g,0,none⟩) (n+1) cap/\ac w 0 99 2 (.slice (some ⟨g,0,none⟩) (n+1) cap) (n+1) (xs++[.int .i64 id,vs 14])/\(rv.ownBlock=some g∨W0.heap.size<=g)/\∀q,(vs 14).ownBlock=some q->q≠g
theorem cZ{W0 w:World}{o:Option Nat}(h:Below W0.heap.size W0 w):W0.grownBy w o:=⟨h.os,h.tape,h.output,h.size,fun q a _=>h.block q a⟩
section
open Par
variable {W0 w w':World}{E:Nat->Value}{rv:Value}{n:Nat}{xs:List Value}{id:Int}{vals:List T3}{l:Nat->Bool}{vs:Nat->Value}
theorem IJ.up(h:IJ W0 E rv n xs id vals l vs w)(i:Nat)(hi:i<14∨i=18):IJ W0 E rv n xs id vals (fq l i) (fk vs i (E i)) w:=by
 have k:∀j,j=14∨j=15∨j=16∨j=17->fq l i j=l j/\fk vs i (E i) j=vs j:=(fun j b=>⟨aI (by omega),aJ (by omega)⟩);refine⟨h.gb,fun a=>h.f0 ((k 17 (by simp)).1▸a),fun j b a=>?_,fun a=>?_,fun a=>?_,fun c d=>?_,fun a=>?_⟩
 ·by_cases e:j=i
  ·subst e;rw[aS]
  rw[aJ e];rw[aI e]at a;exact h.ev j b a
 ·rw[(k 14 (by simp)).1]at a;rw[(k 14 (by simp)).2];exact h.f14 a
 ·rw[(k 15 (by simp)).1]at a;rw[(k 15 (by simp)).2,(k 14 (by simp)).2];exact h.f15 a
 ·rw[(k 16 (by simp)).1]at c;rw[(k 17 (by simp)).1]at d;rw[(k 16 (by simp)).2,(k 14 (by simp)).2];exact h.f16 c d
 rw[(k 17 (by simp)).1]at a;rw[(k 17 (by simp)).2,(k 14 (by simp)).2];exact h.f17 a
theorem IJ.Bl(h:IJ W0 E rv n xs id vals l vs w)(h15:l 15=false)(h16:l 16=false)(h17:l 17=false){g c:Nat}(hr:ac w' w.heap.size 32 3 (.slice (some ⟨g,0,none⟩) vals.length c) vals.length (cells3 vals))(hb:Below w.heap.size w w'):IJ W0 E rv n xs id vals (fq l 14) (fk vs 14 (.slice (some ⟨g,0,none⟩) vals.length c)) w':=by
 have b:=aB (h.f0 h17) hb;refine⟨cZ b,fun _=>b,fun j d a=>?_,fun _=>⟨g,c,aS,ac.mono hr (zh _),zw (h.f0 h17).size (ac.lt hr g rfl).1⟩,fun a=>?_,fun a=>?_,fun a=>?_⟩
 ·rw[aJ (by omega)];rw[aI (by omega)]at a;exact h.ev j d a
 ·rw[aI (by decide),h15]at a;cases a
 ·rw[aI (by decide),h16]at a;cases a
 rw[aI (by decide),h17]at a;cases a
theorem IJ.s15(h:IJ W0 E rv n xs id vals l vs w)(h16:l 16=false)(h17:l 17=false):IJ W0 E rv n xs id vals (fq l 15) (fk vs 15 (.agg #[.int .i64 id,vs 14])) w:=by
 refine⟨h.gb,fun _=>h.f0 h17,fun j b a=>?_,fun a=>?_,fun _=>?_,fun a=>?_,fun a=>?_⟩
 ·rw[aJ (by omega)];rw[aI (by omega)]at a;exact h.ev j b a
 ·rw[aI (by decide)]at a;rw[aJ (by decide)];exact h.f14 a
 ·rw[aS,aJ (by decide)]
 ·rw[aI (by decide),h16]at a;cases a
 rw[aI (by decide),h17]at a;cases a
theorem IJ.s16(h:IJ W0 E rv n xs id vals l vs w)(h14:l 14=true)(h17:l 17=false):IJ W0 E rv n xs id vals (fq l 16) (fk vs 16 (.slice (some ⟨w.heap.size,0,none⟩) 1 1)) (w.alloc (.cells #[.int .i64 id,vs 14] 99)):=by
 have b:=aB (h.f0 h17) (aD w (.cells #[.int .i64 id,vs 14] 99));obtain⟨g,c,e,d,i⟩:=h.f14 h14;refine⟨cZ b,fun _=>b,fun j k a=>?_,fun a=>?_,fun a=>?_,fun _ _=>⟨w,?_,aS,h.f0 h17,fun q f=>?_⟩,fun a=>?_⟩
 ·rw[aJ (by omega)];rw[aI (by omega)]at a;exact h.ev j k a
 ·rw[aJ (by decide)];exact⟨g,c,e,d.later (aD _ _),i⟩
 ·rw[aI (by decide)]at a;rw[aJ (by decide),aJ (by decide)];exact h.f15 a
 ·rw[aJ (by decide)]
 ·rw[aJ (by decide),e]at f;exact(ac.lt d q f).2
 rw[aI (by decide),h17]at a;cases a
theorem IJ.CT(h:IJ W0 E rv n xs id vals l vs w)(h14:l 14=true)(hW:ac W0 0 99 2 rv n xs){y:World}{v:Value}(h16:w=y.alloc (.cells #[.int .i64 id,vs 14] 99))(hy:Below W0.heap.size W0 y)(h14y:∀q,(vs 14).ownBlock=some q->q<y.heap.size){g cap:Nat}(hv:v=.slice (some ⟨g,0,none⟩) (n+1) cap)(hr:ac w' 0 99 2 (.slice (some ⟨g,0,none⟩) (n+1) cap) (n+1) (xs++[.int .i64 id,vs 14]))(hg:y.grownBy w' rv.ownBlock)(ho:rv.ownBlock=some g∨y.heap.size<=g):IJ W0 E rv n xs id vals (fq l 17) (fk vs 17 v) w':=by
 obtain⟨a,c,e,p,r⟩:=h.f14 h14;have i:∀q,rv.ownBlock=some q->q<W0.heap.size:=(fun q d=>(ac.lt hW q d).2);have f:a<y.heap.size:=h14y a (by rw[e];rfl);have m:W0.grownBy w' rv.ownBlock:=⟨hg.os.trans hy.os,hg.tape.trans hy.tape,hg.output.trans hy.output,zw hy.size hg.size,fun q d s=>(hg.block q (z9 d hy.size) s).trans (hy.block q d)⟩;refine⟨m,fun b=>?_,fun j t b=>?_,fun b=>?_,fun b=>?_,fun _ b=>?_,fun _=>⟨g,cap,aS.trans hv,?_,ho.imp (fun h=>h) (fun h=>zw hy.size h),fun q d u=>?_⟩⟩
 ·rw[bW]at b;cases b
 ·rw[aJ (by omega)];rw[aI (by omega)]at b;exact h.ev j t b
 ·rw[aJ (by decide)];refine⟨a,c,e,p.of (fun k x=>?_),r⟩;cases x;rw[hg.block a f (fun e=>by have:=i a e.symm;omega),h16];exact(aD y _).block a f |>.symm
 ·rw[aI (by decide)]at b;rw[aJ (by decide),aJ (by decide)];exact h.f15 b
 ·rw[bW]at b;cases b
 ·rw[aJ (by decide)];exact hr
 rw[aJ (by decide),e]at d;cases d;subst u;rcases ho with o|o
 ·have:=i a o;omega
 exact absurd f (Nat.not_lt.2 o)
end
section
variable {W:World}{b:Nat}{ts:List T}{tt:List RT}{i:NI}{O:Nat->Nat}{t:Nat}{y:RT}
theorem Gv{S:Nat->Prop}{vv:Value}{vals:List T3}(h:ew W b ts tt i O)(ht:t<ts.length)(hy:tt[t]?=some y)(hv:eb S W vv vals)(hs:∀x∈vals,x.2.2.size<=maxLen)(hc:ts[t].cols.length<=1000)(hl:vals.length<=1000000)(hno:dj ts[t] vals≠0):Calls prog 38 #[.pointer (some ⟨b,0,none⟩),.int .i64 (t:Int),vv] W fun e w'=>e=.returned (.tuple #[.int .i64 0,.int .i64 (dj ts[t] vals)])/\Below W.heap.size W w':=by
 obtain⟨⟨gs,cs,go,co,gn,cn,pc,kc,pd,a2⟩,_,_,_,_,_,_,f⟩:=h.reads ht hy;obtain⟨o,F⟩:=ag (ts[t]'ht);simp only[F]at f hc hno ⊢;obtain⟨s,G⟩:=ag ts.length;have a3:(t:Int)<(s:Int):=(by omega);have a4:t<s:=by omega
 have X:∀w,Below W.heap.size W w->w.cell? ⟨b,0,none⟩=some (.slice (some ⟨gs,0,none⟩) s cs)/\w.cell? ⟨gs,t*4+1,none⟩=some (.slice pc o.cols.length kc)/\b<w.heap.size/\gs<w.heap.size/\fu w (.slice pc o.cols.length kc) o.cols:=fun w l=>by
  have k:=f w l;exact⟨by rw[<-G];exact k.b0,k.s1,k.bl,k.sl,k.rd⟩
 obtain⟨p,a0,rfl,_,_⟩:=hv.slice;obtain⟨n,P⟩:=ag vals.length;obtain⟨nc,H⟩:=ag o.cols.length;have a5:(n:Int)<=1000000:=(by omega);have a1:(nc:Int)<=1000:=(by omega);obtain⟨d1,d2,d3,d4,_⟩:=X W (zb _ _);rw[H]at d2;by_cases I:vals.length=o.cols.length
 ·have q:gu o vals=false:=by
   cases h1:gu o vals with
   | false=>rfl
   | true=>exact absurd (by unfold dj;rw[zq (by omega),h1];rfl) hno
  have Q:dj o vals=4:=(by unfold dj;rw[zq (by omega),q];rfl);rw[Q,P];obtain rfl:n=nc:=(by omega);have HF:=aa X;have HV:=aa hv;have HS:=aa hs;have R:=aa (ab P (ab H q));clear h X hv hs hno Q q P hc hl I hy G f F;go_enter func38,ntmps38;go_wp2_with fail;go_loopg [8] (n+1) (fun gh jv w=>∃(j:Nat),jv=.int .i64 (j:Int)/\j<=n/\n+1<=j+gh/\(∀m,m<j->AS o vals m=true)/\Below W.heap.size W w)
  case atStart=>exact⟨0,rfl,zh _,by omega,fun m hm=>absurd hm (yo m),zb _ _⟩
  obtain⟨j,rfl,hj,hg,hA,Y⟩:=hrel;by_cases U:j<n
  ·have a6:(j:Int)<(n:Int):=(by omega);have V:j<o.cols.length:=(by rw[R.2.1];exact U);have J:j<vals.length:=(by rw[R.1];exact U);obtain⟨b1,o1,rfl,_,y⟩:=(HV.out.later Y).val J;obtain⟨e1,e2,e3,e4,e5⟩:=HF.out wr Y;obtain⟨b2,o2,rfl,_,z⟩:=fu.col e5 V;obtain⟨u,hu⟩:=ag (vals[j]);obtain⟨c,L⟩:=ag (o.cols[j]);have M:=HS.out _ (z8 J);rw[hu]at y M;rw[L]at z;rw[R.2.1]at e2;have E:AS o vals j=lx c.kd u:=(by rw[qY V J,hu,L]);have g:∀w,Below wr.heap.size wr w->∀{a:Addr} {v:Value},wr.cell? a=some v->w.cell? a=some v:=fun w l {a v} h=>(za (w:=wr) (l.block _ (xn _ _ h))).trans h
   have r:Hid (∀w,Below wr.heap.size wr w->(w.cell? ⟨b1,o1+j*3,none⟩=some (.int .i64 u.1)/\w.cell? ⟨b1,o1+j*3+1,none⟩=some (.int .i64 u.2.1)/\w.cell? ⟨b1,o1+j*3+2,none⟩=some (.string u.2.2))/\(w.cell? ⟨b,0,none⟩=some (.slice (some ⟨gs,0,none⟩) s cs)/\w.cell? ⟨gs,t*4+1,none⟩=some (.slice (some ⟨b2,o2,none⟩) n kc))/\(b<w.heap.size/\gs<w.heap.size)/\(w.cell? ⟨b2,o2+j*4,none⟩=some (.string c.nm)/\w.cell? ⟨b2,o2+j*4+1,none⟩=some (.int .i64 c.kd)/\w.cell? ⟨b2,o2+j*4+2,none⟩=some (.bool c.mu)/\w.cell? ⟨b2,o2+j*4+3,none⟩=some (.string c.tgt))):=aa (fun w l =>
    ⟨⟨g w l y.1,g w l y.2.1,g w l y.2.2⟩,⟨g w l e1,g w l e2⟩,⟨z9 e3 l.size,z9 e4 l.size⟩,⟨g w l z.1,g w l z.2.1,g w l z.2.2.1,g w l z.2.2.2⟩⟩)
   have d:=(fun w=>iD u.1 u.2.1 u.2.2 c w M);have Z:=aa (ab Y (ab hA E));clear Y hA y z e1 e2 e3 e4 e5 hu L M g E d1 d2 d3 d4;go_upto_region 6 with fail;refine Par.ae 15 [.slice (some ⟨b1,o1,none⟩) n a0,.int .i64 (j:Int),.pointer (some ⟨b1,o1+j*3,none⟩),.agg #[.int .i64 u.1,.int .i64 u.2.1,.string u.2.2],.pointer (some ⟨b,0,none⟩),.pointer (some ⟨b,0,none⟩),.pointer (some ⟨b,0,none⟩),.slice (some ⟨gs,0,none⟩) s cs,.int .i64 (t:Int),.pointer (some ⟨gs,t*4,none⟩),.pointer (some ⟨gs,t*4+1,none⟩),.slice (some ⟨b2,o2,none⟩) n kc,.int .i64 (j:Int),.pointer (some ⟨b2,o2+j*4,none⟩),.agg #[.string c.nm,.int .i64 c.kd,.bool c.mu,.string c.tgt]] (fun w=>Below wr.heap.size wr w) ?A1 ?hm1 ?hB1 ?hA1 (aF wr) ?hop1 ?hT1
   case hm1=>kernel_rfl
   case hB1=>kernel_rfl
   case hA1 =>
    simp only[Par.am,Par.ai,Act.put,cy,db,bt,cp,dc,da,bu,eg,ed];rfl
   case hop1 =>
    simp only[ce,ze,Par.ah,yu];and_intros<;>intro w' f<;>have N:=aa f
    rotate_left 3;have x0:=(r.out w' f).1.1;have x1:=(r.out w' f).1.2.1;have x2:=(r.out w' f).1.2.2;rotate_left 2;have zl:=(r.out w' f).2.2.1.1;rotate_left;have zl:=(r.out w' f).2.2.1.1;rotate_left;have x0:=(r.out w' f).2.1.1;rotate_left 3;have zl:=(r.out w' f).2.2.1.2;rotate_left;have x0:=(r.out w' f).2.1.2;rotate_left 3;have x0:=(r.out w' f).2.2.2.1;have x1:=(r.out w' f).2.2.2.2.1;have x2:=(r.out w' f).2.2.2.2.2.1;have x3:=(r.out w' f).2.2.2.2.2.2;rotate_left
    all_goals(clear f;simp only[Par.Gives];go_simp;all_goals exact N.out)
   intro w' f;simp only[cw,ym];have N:=aa f;have d:=d w';clear f;cases A:lx c.kd u
   ·rw[show(u.1,u.2.1,u.2.2)=u from rfl,A]at d;clear A;go_wp2_with (go_at_call 71;refine d.mono ?_;rintro e w4⟨rfl,B⟩;have H4:=aa (aB Z.1 (N.out.trans (B.mono N.out.size)));clear d B);go_ret2;exact⟨rfl,H4.out⟩
   rw[show(u.1,u.2.1,u.2.2)=u from rfl,A]at d;have HI:=aa A;clear A;go_wp2_with (go_at_call 71;refine d.mono ?_;rintro e w4⟨rfl,B⟩;have H4:=aa (aB Z.1 (N.out.trans (B.mono N.out.size)));clear d B);go_roundg (n-j)
   case measure=>omega
   case rel=>exact⟨j+1,rfl,by omega,by omega,fun m hm=>(by
    by_cases em:m=j
    ·rw[em,Z.2.2];exact HI.out
    exact Z.2.1 m (by omega)),H4.out⟩
  exfalso;have q:=R.2.2;have:gu o vals=true:=(jY fun m hm=>hA m (by have:=R.2.1;omega));rw[this]at q;cases q
 have Q:dj o vals=1:=(by unfold dj;rw[zv I]);have hd:((n:Int) != (nc:Int))=true:=(by simp;omega);rw[Q,P];clear h X hv hs hno Q P H I hc hl hy G f F;go_enter func38,ntmps38;go_wp2_with fail;go_ret2;exact⟨rfl,zb _ _⟩
theorem JL{S:Nat->Prop}{vv:Value}{vals:List T3}(h:ew W b ts tt i O)(ht:t<ts.length)(hy:tt[t]?=some y)(hv:eb S W vv vals)(hS:∀q,S q->O q=0)(hs:∀x∈vals,x.2.2.size<=maxLen)(hc:ts[t].cols.length<=1000)(h0:0<ts[t].cols.length)(hl:vals.length<=1000000)(b7:y.A.length<=100000)(hnx:y.nx<=100000)(hyes:dj ts[t] vals=0):Calls prog 38 #[.pointer (some ⟨b,0,none⟩),.int .i64 (t:Int),vv] W fun e w'=>e=.returned (.tuple #[.int .i64 (y.nx:Int),.int .i64 0])/\∃x O',ew w' b ts (tt.set t x) i O'/\x.nx=y.nx+1/\x.A=y.A++[((y.nx:Int),vals)]/\Ext W O O'/\Tn (fun q=>O q≠0) W w':=by
 obtain⟨⟨gs,cs,go,co,gn,cn,pc,kc,pd,j7⟩,_,o1,n1,a3,h5,h6,F⟩:=h.reads ht hy;obtain⟨T0,b8⟩:=ag (ts[t]'ht);simp only[b8]at F hc h0 hyes;obtain⟨B,a0⟩:=ag ts.length;have j8:(t:Int)<(B:Int):=(by omega);have j9:t<B:=by omega
 have hF:∀w,Below W.heap.size W w->w.cell? ⟨b,0,none⟩=some (.slice (some ⟨gs,0,none⟩) B cs)/\w.cell? ⟨gs,t*4+1,none⟩=some (.slice pc T0.cols.length kc)/\b<w.heap.size/\gs<w.heap.size/\fu w (.slice pc T0.cols.length kc) T0.cols:=fun w H=>by
  have k:=F w H;exact⟨by rw[<-a0];exact k.b0,k.s1,k.bl,k.sl,k.rd⟩
 have f1:Hid (∀w,Below W.heap.size W w->w.cell? ⟨b,2,none⟩=some (.slice (some ⟨gn,0,none⟩) B cn)/\w.cell? ⟨gn,t,none⟩=some (.int .i64 (y.nx:Int))/\w.frozen? ⟨gn,t,none⟩=false/\gn<w.heap.size):=aa (fun w H=>by
  have k:=F w H;exact⟨by rw[<-a0];exact k.b2,k.n0,k.nf,k.nl⟩)
 obtain⟨o,s⟩:=ag y.nx;simp only[s]at f1;obtain⟨p,b9,rfl,_,_⟩:=hv.slice;obtain⟨n,hn⟩:=ag vals.length;obtain⟨nc,f2⟩:=ag T0.cols.length;have k0:(n:Int)<=1000000:=(by omega);have j5:(nc:Int)<=1000:=(by omega);obtain⟨d1,d2,d3,d4,_⟩:=hF W (zb _ _);rw[f2]at d2
 have h7:vals.length=T0.cols.length:=by
  by_cases e:vals.length=T0.cols.length
  ·exact e
  unfold dj at hyes;rw[zv e]at hyes;cases hyes
 have f3:gu T0 vals=true:=by
  unfold dj at hyes;rw[zq (by omega)]at hyes;cases h1:gu T0 vals with
  | true=>rfl
  | false=>rw[h1]at hyes;cases hyes
 rw[hn];obtain rfl:n=nc:=(by omega);have HF:=aa hF;have HV:=aa (ab hv hS);have h8:=aa hs;have HN:=aa (ab hn (ab f2 f3));have HD:=aa (ab h (ab hc (ab h0 (ab b7 (ab o1 (ab n1 (ab a3 (ab a0 (ab hy s)))))))));have HT:=aa ht;have h9:=aa b8;have j6:(o:Int)<=100000:=(by omega);rw[s];clear h hF hv hs hyes f3 hn hc hl h7 hS h0 b7 F hy o1 n1 hnx h6 a3 h5 a0 s b8;go_enter func38,ntmps38;go_wp2_with fail;go_loopg [8] (n+1) (fun gh jv w=>∃(j:Nat),jv=.int .i64 (j:Int)/\j<=n/\n+1<=j+gh/\Below W.heap.size W w)
 case atStart=>exact⟨0,rfl,zh _,by omega,zb _ _⟩
 obtain⟨j,rfl,hj,hg,hB⟩:=hrel;by_cases f4:j<n
 ·have k2:(j:Int)<(n:Int):=(by omega);have c0:j<T0.cols.length:=(by rw[HN.2.1];exact f4);have c1:j<vals.length:=(by rw[HN.1];exact f4);obtain⟨b1,o1,rfl,_,y⟩:=(HV.1.later hB).val c1;obtain⟨e1,e2,e3,e4,e5⟩:=HF.out wr hB;obtain⟨b2,o2,rfl,_,z⟩:=fu.col e5 c0;obtain⟨u,hu⟩:=ag (vals[j]);obtain⟨c,c5⟩:=ag (T0.cols[j]);have c6:=h8.out _ (z8 c1);rw[hu]at y c6;rw[c5]at z;rw[HN.2.1]at e2
  have b4:lx c.kd u=true:=by
   have h1:=qY c0 c1;rw[hu,c5]at h1;rw[<-h1];have h2:=HN.2.2;unfold gu at h2;exact List.all_eq_true.1 h2 j (List.mem_range.2 c0)
  have G:∀w,Below wr.heap.size wr w->∀{a:Addr} {v:Value},wr.cell? a=some v->w.cell? a=some v:=fun w H {a v} h=>(za (w:=wr) (H.block _ (xn _ _ h))).trans h
  have HC:Hid (∀w,Below wr.heap.size wr w->(w.cell? ⟨b1,o1+j*3,none⟩=some (.int .i64 u.1)/\w.cell? ⟨b1,o1+j*3+1,none⟩=some (.int .i64 u.2.1)/\w.cell? ⟨b1,o1+j*3+2,none⟩=some (.string u.2.2))/\(w.cell? ⟨b,0,none⟩=some (.slice (some ⟨gs,0,none⟩) B cs)/\w.cell? ⟨gs,t*4+1,none⟩=some (.slice (some ⟨b2,o2,none⟩) n kc))/\(b<w.heap.size/\gs<w.heap.size)/\(w.cell? ⟨b2,o2+j*4,none⟩=some (.string c.nm)/\w.cell? ⟨b2,o2+j*4+1,none⟩=some (.int .i64 c.kd)/\w.cell? ⟨b2,o2+j*4+2,none⟩=some (.bool c.mu)/\w.cell? ⟨b2,o2+j*4+3,none⟩=some (.string c.tgt))):=aa (fun w H =>
   ⟨⟨G w H y.1,G w H y.2.1,G w H y.2.2⟩,⟨G w H e1,G w H e2⟩,⟨z9 e3 H.size,z9 e4 H.size⟩,⟨G w H z.1,G w H z.2.1,G w H z.2.2.1,G w H z.2.2.2⟩⟩)
  have I:=(fun w=>iD u.1 u.2.1 u.2.2 c w c6);rw[show(u.1,u.2.1,u.2.2)=u from rfl,b4]at I;have HB:=aa hB;clear hB y z e1 e2 e3 e4 e5 hu c5 c6 G b4 d1 d2 d3 d4;go_upto_region 6 with fail;refine Par.ae 15 [.slice (some ⟨b1,o1,none⟩) n b9,.int .i64 (j:Int),.pointer (some ⟨b1,o1+j*3,none⟩),.agg #[.int .i64 u.1,.int .i64 u.2.1,.string u.2.2],.pointer (some ⟨b,0,none⟩),.pointer (some ⟨b,0,none⟩),.pointer (some ⟨b,0,none⟩),.slice (some ⟨gs,0,none⟩) B cs,.int .i64 (t:Int),.pointer (some ⟨gs,t*4,none⟩),.pointer (some ⟨gs,t*4+1,none⟩),.slice (some ⟨b2,o2,none⟩) n kc,.int .i64 (j:Int),.pointer (some ⟨b2,o2+j*4,none⟩),.agg #[.string c.nm,.int .i64 c.kd,.bool c.mu,.string c.tgt]] (fun w=>Below wr.heap.size wr w) ?A2 ?hm2 ?hB2 ?hA2 (aF wr) ?hop2 ?hT2
  case hm2=>kernel_rfl
  case hB2=>kernel_rfl
  case hA2 =>
   simp only[Par.am,Par.ai,Act.put,cy,db,bt,cp,dc,da,bu,eg,ed];rfl
  case hop2 =>
   simp only[ce,ze,Par.ah,yu];and_intros<;>intro w' F<;>have HR:=aa F
   rotate_left 3;have x0:=(HC.out w' F).1.1;have x1:=(HC.out w' F).1.2.1;have x2:=(HC.out w' F).1.2.2;rotate_left 2;have zl:=(HC.out w' F).2.2.1.1;rotate_left;have zl:=(HC.out w' F).2.2.1.1;rotate_left;have x0:=(HC.out w' F).2.1.1;rotate_left 3;have zl:=(HC.out w' F).2.2.1.2;rotate_left;have x0:=(HC.out w' F).2.1.2;rotate_left 3;have x0:=(HC.out w' F).2.2.2.1;have x1:=(HC.out w' F).2.2.2.2.1;have x2:=(HC.out w' F).2.2.2.2.2.1;have x3:=(HC.out w' F).2.2.2.2.2.2;rotate_left
   all_goals(clear F;simp only[Par.Gives];go_simp;all_goals exact HR.out)
  intro w' F;simp only[cw,ym];have HR:=aa F;have I:=I w';clear F;go_wp2_with (go_at_call 71;refine I.mono ?_;rintro e w4⟨rfl,f5⟩;have H4:=aa (aB HB.out (HR.out.trans (f5.mono HR.out.size)));clear I f5);go_roundg (n-j)
  case measure=>omega
  exact⟨j+1,rfl,by omega,by omega,H4.out⟩
 obtain rfl:j=n:=(by omega);obtain⟨hD,hc,h0,b7,o1,n1,a3,a0,hy,s⟩:=HD.out;have ht:=HT.out;have hD:=hD.later hB;obtain⟨n4,n3,n5,n6⟩:=f1.out wr hB;have n1:i.nv=.slice (some ⟨gn,0,none⟩) ts.length cn:=n1;obtain⟨P,a1⟩:=hD.setnext ht hy n1;rw[s]at P a1;have xl:=aC hD.box;have c8:=(HV.1.later hB).tn a1 (fun q hq=>fun h=>h (HV.2 q hq));have e6:=a1.size;have HB:=aa hB;clear hD n1 d1 d2 d3 d4 hB;go_upto_region 10 with fail;obtain⟨w5,e7⟩:=ag (wr.setCell ⟨gn,t,none⟩ (.int .i64 ((o:Int)+1)));rw[e7]at P a1 c8 e6;rw[e7];clear e7 n3 n4 n5 n6 xl;have i0:t<tt.length:=(by have:=(List.getElem?_eq_some_iff.1 hy).1;omega);have a8:(tt.set t { y with nx:=o+1 })[t]?=some { y with nx:=o+1 }:=(by rw[List.getElem?_set,zv rfl,zv i0]);obtain⟨Q,_,p1,_,_,_,_,J⟩:=P.reads ht a8;have J:=J w5 (zb _ _);have a9:i.ov=.slice (some ⟨go,0,none⟩) ts.length co:=o1;rw[a9]at p1;obtain⟨rfl,rfl⟩:go=Q.go/\co=Q.co:=(by injection p1 with p1 _ p2;injection p1 with p1;injection p1 with p1;exact⟨p1,p2⟩);have o3:w5.cell? ⟨Q.go,t,none⟩=some y.rv:=J.o0;have o4:w5.cell? ⟨b,1,none⟩=some (.slice (some ⟨Q.go,0,none⟩) B Q.co):=(by rw[<-a0];exact J.b1);have o2:=J.ol;have xl:=J.bl;have b3:=P.ok ht a8;have f6:ac w5 0 99 2 y.rv y.A.length (az y.A y.vs):=b3.rows;have e8:∀q,y.rv.ownBlock=some q->O q=5+2*t:=b3.orv;have i1:O Q.go=3:=a3;have i2:=P.o1;have b5:=J.oF
 have L:Hid (∀w,w5.grownBy w y.rv.ownBlock->w.cell? ⟨Q.go,t,none⟩=some y.rv/\w.cell? ⟨b,1,none⟩=some (.slice (some ⟨Q.go,0,none⟩) B Q.co)/\b<w.heap.size/\Q.go<w.heap.size/\w.frozen? ⟨Q.go,t,none⟩=false):=aa (fun w hg=>by
  have f7:=hg.block Q.go o2 (fun e=>by have:=e8 Q.go e.symm;omega);exact⟨(za (w:=w5) f7).trans o3,(za (w:=w5) (hg.block b xl (fun e=>by have:=e8 b e.symm;omega))).trans o4,z9 xl hg.size,z9 o2 hg.size,(vc (w:=w5) f7).trans b5⟩)
 obtain⟨go,f8⟩:=ag Q.go;obtain⟨co,f9⟩:=ag Q.co;rw[f8,f9]at L a9;have i3:=aa c8;have g0:=b3.rng;have e9:=(HD.1.ok ht hy).rng;have M:=aa (ab P (ab a1 (ab e6 (ab f6 (ab a9 (ab a8 e9))))));clear P a1 c8 e6 o1 o2 o3 o4 f6 e8 i1 i2 xl b5 b3 J p1 a9 g0 f8 f9 a8 a3;refine Par.ay 19 (IJ w5 (fun i4=>[.pointer (some ⟨b,0,none⟩),.pointer (some ⟨b,0,none⟩),.pointer (some ⟨b,1,none⟩),.slice (some ⟨go,0,none⟩) B co,.int .i64 (t:Int),.pointer (some ⟨b,0,none⟩),.pointer (some ⟨b,0,none⟩),.pointer (some ⟨b,1,none⟩),.slice (some ⟨go,0,none⟩) B co,.int .i64 (t:Int),.pointer (some ⟨go,t,none⟩),y.rv,.int .i64 (o:Int),.slice p j b9,undef,undef,undef,undef,.pointer (some ⟨go,t,none⟩)].getD i4 undef) y.rv y.A.length (az y.A y.vs) (o:Int) vals) ?AA ?hmA ?hBA ?hAA ?hJA ?hopA ?hTA
 case hmA=>kernel_rfl
 case hBA=>kernel_rfl
 case hAA =>
  intro vs;simp only[Par.am,Par.ai,Act.put,cy,db,bt,cp,dc,da,bu];rfl
 case hJA =>
  intro vs;have m:=aF w5;exact⟨cZ m,fun _=>m,fun _ _ h=>(by cases h),fun h=>(by cases h),fun h=>(by cases h),fun h=>(by cases h),fun h=>(by cases h)⟩
 case hopA =>
  simp only[ce,ze,Par.br,yu];and_intros<;>intro l vs w d hl m f
  ·have r:=aa d;obtain⟨U,V,X,Y,Z⟩:=L.out w d.gb;clear d m f;simp only[Par.af];go_simp;all_goals exact r.out.up 0 (by decide)
  ·have r:=aa d;obtain⟨U,V,X,Y,Z⟩:=L.out w d.gb;have d0:vs 0=.pointer (some ⟨b,0,none⟩):=d.ev 0 (by decide) (m 0 (by kernel_rfl));clear d m f;simp only[Par.af,d0];go_simp;all_goals exact r.out.up 1 (by decide)
  ·have r:=aa d;obtain⟨U,V,X,Y,Z⟩:=L.out w d.gb;have d1:vs 1=.pointer (some ⟨b,0,none⟩):=d.ev 1 (by decide) (m 1 (by kernel_rfl));clear d m f;simp only[Par.af,d1];go_simp;all_goals exact r.out.up 2 (by decide)
  ·have r:=aa d;obtain⟨U,V,X,Y,Z⟩:=L.out w d.gb;have d2:vs 2=.pointer (some ⟨b,1,none⟩):=d.ev 2 (by decide) (m 2 (by kernel_rfl));clear d m f;simp only[Par.af,d2];go_simp;all_goals exact r.out.up 3 (by decide)
  ·have r:=aa d;obtain⟨U,V,X,Y,Z⟩:=L.out w d.gb;clear d m f;simp only[Par.af];go_simp;all_goals exact r.out.up 4 (by decide)
  ·have r:=aa d;obtain⟨U,V,X,Y,Z⟩:=L.out w d.gb;clear d m f;simp only[Par.af];go_simp;all_goals exact r.out.up 5 (by decide)
  ·have r:=aa d;obtain⟨U,V,X,Y,Z⟩:=L.out w d.gb;have d5:vs 5=.pointer (some ⟨b,0,none⟩):=d.ev 5 (by decide) (m 5 (by kernel_rfl));clear d m f;simp only[Par.af,d5];go_simp;all_goals exact r.out.up 6 (by decide)
  ·have r:=aa d;obtain⟨U,V,X,Y,Z⟩:=L.out w d.gb;have d6:vs 6=.pointer (some ⟨b,0,none⟩):=d.ev 6 (by decide) (m 6 (by kernel_rfl));clear d m f;simp only[Par.af,d6];go_simp;all_goals exact r.out.up 7 (by decide)
  ·have r:=aa d;obtain⟨U,V,X,Y,Z⟩:=L.out w d.gb;have d7:vs 7=.pointer (some ⟨b,1,none⟩):=d.ev 7 (by decide) (m 7 (by kernel_rfl));clear d m f;simp only[Par.af,d7];go_simp;all_goals exact r.out.up 8 (by decide)
  ·have r:=aa d;obtain⟨U,V,X,Y,Z⟩:=L.out w d.gb;clear d m f;simp only[Par.af];go_simp;all_goals exact r.out.up 9 (by decide)
  ·have r:=aa d;obtain⟨U,V,X,Y,Z⟩:=L.out w d.gb;have d8:vs 8=.slice (some ⟨go,0,none⟩) B co:=d.ev 8 (by decide) (m 8 (by kernel_rfl));have d9:vs 9=.int .i64 (t:Int):=d.ev 9 (by decide) (m 9 (by kernel_rfl));clear d m f;simp only[Par.af,d8,d9];go_simp;all_goals exact r.out.up 10 (by decide)
  ·have r:=aa d;obtain⟨U,V,X,Y,Z⟩:=L.out w d.gb;have i5:vs 10=.pointer (some ⟨go,t,none⟩):=d.ev 10 (by decide) (m 10 (by kernel_rfl));clear d m f;simp only[Par.af,i5];go_simp;all_goals exact r.out.up 11 (by decide)
  ·have r:=aa d;obtain⟨U,V,X,Y,Z⟩:=L.out w d.gb;clear d m f;simp only[Par.af];go_simp;all_goals exact r.out.up 12 (by decide)
  ·have r:=aa d;obtain⟨U,V,X,Y,Z⟩:=L.out w d.gb;clear d m f;simp only[Par.af];go_simp;all_goals exact r.out.up 13 (by decide)
  ·have a4:l 15=false:=(by cases h:l 15 with|false=>rfl|true=>exact absurd (f 15 14 (by kernel_rfl) h) (by simp[hl]));have N:l 16=false:=(by cases h:l 16 with|false=>rfl|true=>exact absurd (f 16 15 (by kernel_rfl) h) (by simp[a4]));have a2:l 17=false:=(by cases h:l 17 with|false=>rfl|true=>exact absurd (f 17 16 (by kernel_rfl) h) (by simp[N]));have i6:vs 13=.slice p vals.length b9:=(by rw[HN.1];exact d.ev 13 (by decide) (m 13 (by kernel_rfl)));obtain⟨g1,k1,w6,a5,i7,i8⟩:=mZ (i3.out.later (d.f0 a2)) (by rw[HN.1,<-HN.2.1];exact hc) (by rw[HN.1,<-HN.2.1];exact h0);exact Par.bf rfl (.const (.slice none 0 0)) (.tmp 74) 27 27 rfl rfl i6 a5 (d.Bl a4 N a2 i7 i8)
  ·have N:l 16=false:=(by cases h:l 16 with|false=>rfl|true=>exact absurd (f 16 15 (by kernel_rfl) h) (by simp[hl]));have a2:l 17=false:=(by cases h:l 17 with|false=>rfl|true=>exact absurd (f 17 16 (by kernel_rfl) h) (by simp[N]));have i9:vs 12=.int .i64 (o:Int):=d.ev 12 (by decide) (m 12 (by kernel_rfl));obtain⟨g4,c4,E,R,a6⟩:=d.f14 (m 14 (by kernel_rfl));have r:=aa (d.s15 N a2);rw[E]at r;clear d m f R;simp only[Par.af,i9,E];go_simp;all_goals exact r.out
  ·have a2:l 17=false:=(by cases h:l 17 with|false=>rfl|true=>exact absurd (f 17 16 (by kernel_rfl) h) (by simp[hl]));have a4:=m 15 (by kernel_rfl);have g2:=d.f15 a4;have a7:=f 15 14 (by kernel_rfl) a4;obtain⟨g4,c4,E,R,a6⟩:=d.f14 a7;have r:=aa (d.s16 a7 a2);rw[E]at r g2;clear d m f R;simp only[Par.af,g2];go_simp;all_goals exact r.out
  ·have N:=m 16 (by kernel_rfl);have a7:=f 15 14 (by kernel_rfl) (f 16 15 (by kernel_rfl) N);obtain⟨y0,rfl,j0,g3,g5⟩:=d.f16 N hl;obtain⟨g4,c4,E,R,a6⟩:=d.f14 a7;have j1:vs 11=y.rv:=d.ev 11 (by decide) (m 11 (by kernel_rfl));obtain⟨g,cg,w6,a5,j2,j3,j4⟩:=zZ y0 (M.2.2.2.1.later g3) (by omega) (o:Int) (vs 14) (by rw[E];rfl);refine Par.bf rfl (.tmp 72) (.tmp 77) 92 92 rfl j1 j0 a5 (d.CT a7 M.2.2.2.1 rfl g3 g5 rfl j2 j3 j4)
  have r:=aa d;obtain⟨U,V,X,Y,Z⟩:=L.out w d.gb;have d3:vs 3=.slice (some ⟨go,0,none⟩) B co:=d.ev 3 (by decide) (m 3 (by kernel_rfl));have d4:vs 4=.int .i64 (t:Int):=d.ev 4 (by decide) (m 4 (by kernel_rfl));clear d m f;simp only[Par.af,d3,d4];go_simp;all_goals exact r.out.up 18 (by decide)
 intro l vs w4 hl d;simp only[cw,ym];have g6:vs 18=.pointer (some ⟨go,t,none⟩):=d.ev 18 (by decide) (hl 18 (by decide));obtain⟨g4,c4,E,R,a6⟩:=d.f14 (hl 14 (by decide));obtain⟨g7,c7,g8,g9,h3,h4⟩:=d.f17 (hl 17 (by decide));obtain⟨x1,x2,x3,x4,xf⟩:=L.out w4 d.gb;have b6:=M.1.addrow HT.out M.2.2.2.2.2.1 M.2.2.2.2.1 (id:=(o:Int)) (vals:=vals) R (by rw[h9.out,HN.1,HN.2.1]) (E▸g9) d.gb h3 (fun q hq=>⟨by cases hq;exact a6,h4 q (by rw[E];exact hq)⟩) (fun a ha=>by have:=M.2.2.2.2.2.2 a ha;rw[s]at this;exact this) (by show(o:Int)<((o+1:Nat):Int);omega);have HA:=aa b6;simp only[g6,g8,E];clear b6 d hl E R a6 g9 h3 h4 g6 g8 x2;go_wp2_with fail;go_ret2;obtain⟨O',q1,q2,q3⟩:=HA.out;refine⟨rfl,_,O',by rw[List.set_set]at q1;exact q1,rfl,rfl,fun q hq=>q2 q (by have:=HB.out.size;have:=M.2.2.1;omega),?_⟩;exact((Tn.of_below (S:=fun q=>O q≠0) HB.out).trans M.2.1 (fun _ _ h=>h) (fun _ _ h=>h)).trans q3 (fun _ _ h=>h) (fun _ _ h=>h)
end
