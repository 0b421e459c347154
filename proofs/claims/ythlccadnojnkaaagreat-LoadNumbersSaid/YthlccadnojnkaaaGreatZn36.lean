import Derived.Test.YthlccadnojnkaaaGreatZn35
set_option maxHeartbeats 8000000
set_option maxRecDepth 100000
namespace Go.Proofs.YthlccadnojnkaaaGreat
open Go.Proofs.Tryz
open Go Go.RowKit Go.Proofs Co Co.S
def Short(ts:List T):Prop:=∀t∈ts,t.nm.size<=maxLen
abbrev rowsOf(st:List DT):List (List R1):=st.map (·.2.2)
section
variable {W:World}{d:Nat}{ts:List T}{st:List DT}{O:Nat->Nat}
theorem nO{As:List (List R1)}{x:ByteArray}{v:T3}(h:ky ts x<0):bg ts As x v=none:=by
 unfold bg;split
 ·rw[zv h]
 rfl
theorem pR{As:List (List R1)}{x:ByteArray}{v:T3}{j:Nat}(hj:j<ts.length)(hj':j<As.length)(h:ky ts x=(j:Int)):bg ts As x v=if ts[j].key=e0 then none else if v.1=0 then none else jg As[j] (gx ts[j].cols ts[j].key).toNat v:=by
 unfold bg;rw[h];simp only[v7,z6 hj,z6 hj'];rw[zq (by omega)]
theorem Dd.sp(h:Dd W d ts st O):∃mv,mg mv W (.pointer (some ⟨d,0,none⟩)) ts:=by
 obtain⟨mv,f,n0,a,_⟩:=h.own;exact⟨mv,a.p⟩
theorem iJ{x:ByteArray}{t:T}(h:be ts x=some t):t.nm=x:=by
 have:=List.find?_some (l:=ts) (p:=qc x) h
 exact dQ (by simpa [qc,it]using this)
theorem iK(h:Dd W d ts st O)(hi:mh ts)(hfew:di ts)(hsz:Short ts)(x:ByteArray)(u:T3):Calls prog 100 #[.pointer (some ⟨d,0,none⟩),.string x,.agg #[.int .i64 u.1,.int .i64 u.2.1,.string u.2.2]] W fun e w'=>e=.returned (.tuple #[.int .i64 ((bg ts (rowsOf st) x u).getD 0),.bool (bg ts (rowsOf st) x u).isSome])/\Below W.heap.size W w':=by
 have b:∀w,Below W.heap.size W w->Calls prog 43 #[.pointer (some ⟨d,0,none⟩)] w fun e w'=>e=.returned (.pointer (some ⟨d,0,none⟩))/\w'=w:=fun w t=>bF (h.later t).dlt
 obtain⟨mv,c⟩:=h.sp;rcases bZ ts x with ⟨r,_,f⟩ | ⟨j,g,r,_,f⟩
 ·rw[nO (by omega)];exact kH b c hfew (.inl (by rw[f];rfl))
 have i:j<st.length:=(by rw[h.len];exact g);have p:j<(rowsOf st).length:=(by rw[yh];exact i);rw[pR g p r];by_cases l:ts[j].key=e0
 ·rw[zv l];exact kH b c hfew (.inl (by rw[f];exact l))
 rw[zq l];by_cases n:u.1=0
 ·rw[zv n];exact kH b c hfew (.inr n)
 rw[zq n];have m:=iJ f;have a:=hi.key _ (z8 g)
 have s:dr ts[j].cols ts[j].key=true:=by
  unfold bi at a;rw[wm]at a;rcases a with a|a
  ·rw[eZ]at a;exact absurd a l
  exact a
 rcases cI ts[j].cols ts[j].key with ⟨_,o,_⟩ | ⟨k,q,o,_⟩
 ·rw[o]at s;cases s
 rw[o]
 have:=uB h hfew g i (hsz _ (z8 g)) (by rw[m];exact f) l q o u n
 rw[m]at this;simpa only[v7,rowsOf,xa]using this
theorem Kj{tb next:Nat}{t:T}{A:List R1}{lab:Nat->Nat}(h:Tb W tb t next A lab){id:Int}(hid:kj id){y:ByteArray}{k:Nat}(hk:k<t.cols.length)(hy:gx t.cols y=(k:Int)):Calls prog 132 #[.pointer (some ⟨tb,0,none⟩),.int .i64 id,.string y] W fun e w'=>e=.returned (.tuple #[.agg #[.int .i64 ((oy A k id).1),.int .i64 ((oy A k id).2.1),.string ((oy A k id).2.2)],.bool (dg A id)])/\Below W.heap.size W w':=by
 cases b:dg A id with
 | false =>
  rw[JZ b];exact I7 h hid (.inl (nN.1 b))
 | true =>
  obtain⟨a,c,rfl,d⟩:=F6 b;rw[d];have f:k<a.2.length:=(by rw[h.len a c];exact hk);have e:a.2[k]?=some (a.2.getD k z3):=(by rw[zu,z6 f];rfl);exact iC h c hk hy e
theorem Dd.get(h:Dd W d ts st O)(hsz:Short ts){x y:ByteArray}(hc:dr (el ts x) y=true):∃tb,∀w,Below W.heap.size W w ->
  (Calls prog 62 #[.pointer (some ⟨d,0,none⟩),.string x] w fun e w'=>e=.returned (.pointer (some ⟨tb,0,none⟩))/\w'=w)/\∀id,kj id->Calls prog 132 #[.pointer (some ⟨tb,0,none⟩),.int .i64 id,.string y] w fun e w'=>e=.returned (.tuple #[.agg #[.int .i64 ((cellP ts (rowsOf st) x id y).1),.int .i64 ((cellP ts (rowsOf st) x id y).2.1),.string ((cellP ts (rowsOf st) x id y).2.2)],.bool (dg (jb ts (rowsOf st) x) id)])/\Below w.heap.size w w':=by
 obtain⟨j,c,f,g,r,i,k,n,b⟩:=FN hc;have a:j<st.length:=by rw[h.len];exact c
 have o:jb ts (rowsOf st) x=st[j].2.2:=by
  unfold jb;rw[g,v7,xm,z6 a];rfl
 refine⟨st[j].1,fun w m=>⟨?_,fun id l=>?_⟩⟩
 ·have:=(h.later m).rows c (hsz _ (z8 c)) a
  rw[f]at this;exact this
 obtain⟨p,q,_⟩:=(h.later m).tab j c a
 have:=Kj q l n b
 unfold cellP;rw[o,i,b,v7];exact this
theorem Dd.f64(h:Dd W d ts st O){x:ByteArray}{i:Int}(hm:dg (jb ts (rowsOf st) x) i=true):kj i:=by
 obtain⟨a,b,rfl⟩:=kG.1 hm;unfold jb at b;rw[xm]at b;cases f:st[(ky ts x).toNat]? with
 | none=>rw[f]at b;cases b
 | some s =>
  rw[f]at b;obtain⟨c,rfl⟩:=List.getElem?_eq_some_iff.1 f;obtain⟨g,⟨j,_,e⟩,_⟩:=h.tab _ (by rw[<-h.len];exact c) c;exact Tb.f64 e b
end
end Go.Proofs.YthlccadnojnkaaaGreat
namespace Go.Proofs.YthlccadnojnkaaaGreat
open Go.Proofs.Tryz
open Go Go.RowKit Go.Proofs Co Co.S Par
theorem xS(w:World)(g:Nat)(a b c:Value):w.grownBy (((w.setCell ⟨g,0,none⟩ a).setCell ⟨g,1,none⟩ b).setCell ⟨g,2,none⟩ c) (some g):=
 ⟨rfl,rfl,rfl,by simp[World.setCell],fun i _ d=>by
  have h:i≠g:=(fun e=>d (by rw[e]));rw[yd _ _ i _ h,yd _ _ i _ h,yd _ _ i _ h]⟩
structure JV (W:World) (B s:Nat) (E:Nat->Value) (u:T3) (l:Nat->Bool) (vs:Nat->Value) (w:World):Prop where
 bel:Below W.heap.size W w
 ev:∀j,j≠s->l j=true->vs j=E j
 own:∃x0 x1 x2,w.heap[B]?=some (.cells #[x0,x1,x2] 32)/\(l s=true->x0=.int .i64 u.1/\x1=.int .i64 u.2.1/\x2=.string u.2.2)
section
variable {W w w':World}{B s:Nat}{E:Nat->Value}{u:T3}{l:Nat->Bool}{vs:Nat->Value}
theorem JV.up(h:JV W B s E u l vs w)(i:Nat)(hi:i≠s):JV W B s E u (fq l i) (fk vs i (E i)) w:=by
 refine⟨h.bel,fun j b a=>?_,?_⟩
 ·by_cases e:j=i
  ·subst e;rw[aS]
  rw[aJ e];rw[aI e]at a;exact h.ev j b a
 obtain⟨c,d,f,g,k⟩:=h.own;exact⟨c,d,f,g,fun a=>k (by rwa [aI (fun e=>hi e.symm)]at a)⟩
theorem JV.call(h:JV W B s E u l vs w)(hb:Below w.heap.size w w')(i:Nat)(hi:i≠s):JV W B s E u (fq l i) (fk vs i (E i)) w':=by
 have a:JV W B s E u l vs w':=by
  obtain⟨b,c,d,e,f⟩:=h.own;exact⟨aB h.bel hb,h.ev,b,c,d,aE hb e,f⟩
 exact a.up i hi
theorem JV.store(h:JV W B s E u l vs w)(hB:W.heap.size<=B)(v:Value):JV W B s E u (fq l s) (fk vs s v) (((w.setCell ⟨B,0,none⟩ (.int .i64 u.1)).setCell ⟨B,1,none⟩ (.int .i64 u.2.1)).setCell ⟨B,2,none⟩ (.string u.2.2)):=by
 obtain⟨d,e,f,c,g⟩:=h.own;refine⟨bL h.bel hB _ _ _,fun j a b=>?_,_,_,_,jT c _ _ _,fun _=>⟨rfl,rfl,rfl⟩⟩;rw[aJ a];rw[aI a]at b;exact h.ev j a b
theorem JV.box(h:JV W B s E u l vs w):B<w.heap.size/\(∀j,w.frozen? ⟨B,j,none⟩=false)/\(∃v,w.cell? ⟨B,0,none⟩=some v)/\(∃v,w.cell? ⟨B,1,none⟩=some v)/\∃v,w.cell? ⟨B,2,none⟩=some v:=by
 obtain⟨b,c,d,a,_⟩:=h.own;exact⟨aC a,fun j=>zo w B j _ _ a,⟨_,aA a 0⟩,⟨_,aA a 1⟩,⟨_,aA a 2⟩⟩
end
end Go.Proofs.YthlccadnojnkaaaGreat
namespace Go.Proofs.YthlccadnojnkaaaGreat
open Go.Proofs.Tryz
open Go Go.RowKit Go.Proofs Co Co.S
theorem xT{W:World}{d:Nat}{ts:List T}{st:List DT}{O:Nat->Nat}(h:Dd W d ts st O)(hi:mh ts)(hfew:di ts)(hsz:Short ts){v:Value}{x:ByteArray}{id:Int}{p:List ByteArray}(hid:kj id)(hp:Wd W v p)(hok:(iz ts x p).2.2=0):Calls prog 99 #[.pointer (some ⟨d,0,none⟩),.string x,.int .i64 id,v] W fun e w'=>e=.returned (.tuple #[.agg #[.int .i64 ((ep ts (rowsOf st) x id p).1.1),.int .i64 ((ep ts (rowsOf st) x id p).1.2.1),.string ((ep ts (rowsOf st) x id p).1.2.2)],.bool (ep ts (rowsOf st) x id p).2])/\Below W.heap.size W w':=by
 have a2:=aD W (.cells #[.int .i64 0,.int .i64 0,.string e0] 32);have k1:=z7 W (.cells #[.int .i64 0,.int .i64 0,.string e0] 32);obtain⟨w1,a3⟩:=ag (W.alloc (.cells #[.int .i64 0,.int .i64 0,.string e0] 32));obtain⟨B,hB⟩:=ag W.heap.size;rw[a3]at a2 k1;rw[hB]at k1;have h1:Dd w1 d ts st O:=h.later a2;have b6:=hp.later a2;have hs:=bF (W:=w1) h1.dlt;obtain⟨mv,f6⟩:=h1.sp;have hc:=lI (tb:=x) f6 b6;obtain⟨cc,f7⟩:=ag (iz ts x p)
 have j7:1<=p.length/\p.length<=4:=by
  unfold iz at hok;split at hok
  ·exact absurd hok (by decide)
  omega
 have a4:(pcol ts x (p.drop 0)).2.2=0:=by
  unfold iz at hok;rw[zq (by omega)]at hok;exact hok
 obtain⟨n,hn⟩:=ag p.length;obtain⟨q,a5,rfl,f8,hm⟩:=b6.slice;obtain⟨bp,A,rfl,j8,f9⟩:=Wd.word b6 (i:=0) (by omega);rw[hok]at hc;rw[f7]at hc;obtain⟨⟨nm,kd,mu,tg⟩,s2,er⟩:=cc;dsimp only at hc;rw[show fx ⟨nm,kd,mu,tg⟩=.agg #[.string nm,.int .i64 kd,.bool mu,.string tg]from rfl]at hc;have R:=(D5 (by omega:0<p.length) a4).1
 have S:Hid (∀w,Below W.heap.size W w->∀j (hj:j<p.length),w.cell? ⟨bp,A+j,none⟩=some (.string p[j])/\bp<w.heap.size):=aa (fun w Y j hj=>by
  obtain⟨b',o',e,h1,h2⟩:=Wd.word (hp.later Y) hj;cases e;exact⟨h2,h1⟩)
 have HD:Hid (∀w,Below W.heap.size W w->Dd w d ts st O):=aa (fun w Y=>h.later Y);have HF:Hid (mh ts/\di ts/\Short ts/\kj id/\p.length=n/\1<=n/\n<=4/\(iz ts x p).2.2=0/\(pcol ts x (p.drop 0)).2.2=0/\dr (el ts x) (p[0]'(by omega))=true):=aa ⟨hi,hfew,hsz,hid,hn,by omega,by omega,hok,a4,R⟩;have HW:=aa (ab a3 (ab hB (ab a2 k1)));obtain⟨tb,V⟩:=h.get hsz R;obtain⟨y0,c5⟩:=ag (p[0]'(by omega));rw[c5]at V;obtain⟨o,g0⟩:=ag (cellP ts (rowsOf st) x id y0);obtain⟨ok,J⟩:=ag (dg (jb ts (rowsOf st) x) id)
 have HG:Hid (∀w,Below W.heap.size W w->(Calls prog 62 #[.pointer (some ⟨d,0,none⟩),.string x] w fun e w'=>e=.returned (.pointer (some ⟨tb,0,none⟩))/\w'=w)/\Calls prog 132 #[.pointer (some ⟨tb,0,none⟩),.int .i64 id,.string y0] w fun e w'=>e=.returned (.tuple #[.agg #[.int .i64 o.1,.int .i64 o.2.1,.string o.2.2],.bool ok])/\Below w.heap.size w w'):=aa (fun w Y=>by
  have hg:=(V w Y).2 id hid;rw[g0,J]at hg;exact⟨(V w Y).1,hg⟩)
 have HV:Hid (∀r,(if ok=true then(oq ts (rowsOf st) x id p,true)else(z3,false))=r->ep ts (rowsOf st) x id p=r):=aa (fun r hr=>by
  rw[<-hr];unfold ep;by_cases e:ok=true
  ·rw[zv ⟨hok,by rw[J];exact e⟩,zv e]
  rw[zq (fun h=>e (by rw[<-J];exact h.2)),zq e])
 have g1:Hid (p[0]'(by omega)=y0/\dg (jb ts (rowsOf st) x) id=ok):=aa ⟨c5,J⟩;have j9:(0:Int)<(n:Int):=(by omega);have i3:0<n:=(by omega);rw[hn]at hc;rw[hn]at f8;obtain⟨res,a6⟩:=ag (ep ts (rowsOf st) x id p);rw[a6,hn];have a7:=aa a6;clear f9;clear a3 hB a2 k1 h h1 hp b6 f6 f7 a4 R c5 g0 J hi hfew hsz hid hok V a6;unfold maxLen at hm;go_enter func99,ntmps99;go_upto_region 1 with fail;rw[HW.1,HW.2.1]
 go_upto_region 2 with (first|(go_at_call 43;(with_reducible refine hs.mono ?_);rintro e w2⟨rfl,Y⟩;subst w2;clear hs)|(go_at_call 131;(with_reducible refine hc.mono ?_);rintro e w3⟨rfl,c6⟩;have g2:=aD w3 (.cells #[.string nm,.int .i64 kd,.bool mu,.string tg] 95);have H3:=aa (aB HW.2.2.1 (aB c6 g2));have i4:=aa (aE c6 HW.2.2.2);clear hc c6 g2))
 have g3:=aE (aD w3 (.cells #[.string nm,.int .i64 kd,.bool mu,.string tg] 95)) i4.out;have g4:=aa g3;clear g3;generalize w3.alloc _=w4 at H3 g4 ⊢;go_upto_region 4 with fail;refine Par.nu 14 11 12 9 (w4.heap.size) 32 (#[.int .i64 0,.int .i64 0,.string e0]) (Par.By) (fun y=>Below w4.heap.size w4 y) (Par.A0 [(.eq (.pointer (some ⟨d,0,none⟩))),(.eq (.string x)),(.eq (.pointer (some ⟨tb,0,none⟩))),(.eq (.int .i64 id)),(.eq (.slice (some ⟨bp,A,none⟩) n a5)),(.eq (.pointer (some ⟨bp,A,none⟩))),(.eq (.string y0)),(.eq (.tuple #[.agg #[.int .i64 o.1,.int .i64 o.2.1,.string o.2.2],.bool ok])),(.eq (.tuple #[.agg #[.int .i64 o.1,.int .i64 o.2.1,.string o.2.2],.bool ok])),(.eq (.agg #[.int .i64 o.1,.int .i64 o.2.1,.string o.2.2])),(.eq (.bool ok)),(.any),(.any),(.eq (.bool ok))]) ?A1 ?hm1 ?hB1 (fun w w' h ht=>h.trans ht.below) (Par.A0.mono _) (fun w h=>h.size) ?hA1 (aF w4) (by decide) (by decide) (by decide) (by kernel_rfl) (by kernel_rfl) (by decide) ?hop1 ?hT1
 case hm1=>kernel_rfl
 case hB1=>kernel_rfl
 case hA1 =>
  intro vs;simp only[Par.am,Par.ai,Act.put,cy,db,bt,cp,dc,da,bu];rfl
 case hop1 =>
  have i5:(List.range 14).map (Par.qo 11 12)=[.val,.val,.val,.val,.val,.val,.val,.val,.val,.val,.val,.new,.put,.val]:=rfl;simp only[i5,ce,ze,Par.fo,yu];refine⟨fun vs w F f=>?_,fun vs w F f=>?_,fun vs w F f=>?_,fun vs w F f=>?_,fun vs w F f=>?_,fun vs w F f=>?_,fun vs w F f=>?_,fun vs w F f=>?_,fun vs w F f=>?_,fun vs w F f=>?_,fun vs w F f=>?_,fun vs w F=>?_,fun vs w g F f a I=>?_,fun vs w F f=>?_⟩
  ·clear f;simp only[Par.af];go_simp;all_goals exact⟨rfl,zb _ _⟩
  ·clear f;simp only[Par.af];go_simp;all_goals exact⟨rfl,zb _ _⟩
  ·have d0:=f 0 (by decide) (by decide) (by decide) (by kernel_rfl);replace d0:vs 0=.pointer (some ⟨d,0,none⟩):=d0;have d1:=f 1 (by decide) (by decide) (by decide) (by kernel_rfl);replace d1:vs 1=.string x:=d1;clear f;simp only[Par.af,d0,d1];go_simp;exact((HG.out w (aB H3.out F)).1).mono (fun e i6 h=>⟨_,h.1,⟨rfl,h.2▸zb _ _⟩⟩)
  ·clear f;simp only[Par.af];go_simp;all_goals exact⟨rfl,zb _ _⟩
  ·clear f;simp only[Par.af];go_simp;all_goals exact⟨rfl,zb _ _⟩
  ·have d4:=f 4 (by decide) (by decide) (by decide) (by kernel_rfl);replace d4:vs 4=(.slice (some ⟨bp,A,none⟩) n a5):=d4;clear f;simp only[Par.af,d4];go_simp;all_goals exact⟨rfl,zb _ _⟩
  ·have d5:=f 5 (by decide) (by decide) (by decide) (by kernel_rfl);replace d5:vs 5=.pointer (some ⟨bp,A,none⟩):=d5;have k:=((S.out w (aB H3.out F)) 0 (by rw[HF.2.2.2.2.1];exact i3));rw[g1.1]at k;rw[Nat.add_zero]at k;have k0:=k.1;have k1:=k.2;clear k;clear f;simp only[Par.af,d5];go_simp;all_goals exact⟨rfl,zb _ _⟩
  ·have d2:=f 2 (by decide) (by decide) (by decide) (by kernel_rfl);replace d2:vs 2=.pointer (some ⟨tb,0,none⟩):=d2;have d3:=f 3 (by decide) (by decide) (by decide) (by kernel_rfl);replace d3:vs 3=.int .i64 id:=d3;have d6:=f 6 (by decide) (by decide) (by decide) (by kernel_rfl);replace d6:vs 6=.string y0:=d6;clear f;simp only[Par.af,d2,d3,d6];go_simp;exact((HG.out w (aB H3.out F)).2).mono (fun e i6 h=>⟨_,h.1,⟨rfl,h.2⟩⟩)
  ·have d7:=f 7 (by decide) (by decide) (by decide) (by kernel_rfl);replace d7:vs 7=.tuple #[.agg #[.int .i64 o.1,.int .i64 o.2.1,.string o.2.2],.bool ok]:=d7;clear f;simp only[Par.af,d7];go_simp;all_goals exact⟨rfl,zb _ _⟩
  ·have Q:=f 8 (by decide) (by decide) (by decide) (by kernel_rfl);replace Q:vs 8=.tuple #[.agg #[.int .i64 o.1,.int .i64 o.2.1,.string o.2.2],.bool ok]:=Q;clear f;simp only[Par.af,Q];go_simp;all_goals exact⟨rfl,zb _ _⟩
  ·have Q:=f 8 (by decide) (by decide) (by decide) (by kernel_rfl);replace Q:vs 8=.tuple #[.agg #[.int .i64 o.1,.int .i64 o.2.1,.string o.2.2],.bool ok]:=Q;clear f;simp only[Par.af,Q];go_simp;all_goals exact⟨rfl,zb _ _⟩
  ·clear F;simp only[Par.af];go_simp;all_goals exact⟨rfl,rfl⟩
  ·have d9:=f 9 (by decide) (by decide) (by decide) (by kernel_rfl);replace d9:vs 9=.agg #[.int .i64 o.1,.int .i64 o.2.1,.string o.2.2]:=d9;have z0:=aA I 0;have z1:=aA I 1;have z2:=aA I 2;have zf:=(fun i=>zo w g i _ _ I);have zl:=aC I;have HZ:=aa I;clear F f I;simp only[Par.af,a,d9];go_simp;exact⟨xS w g _ _ _,jT HZ.out _ _ _⟩
  have G:=f 10 (by decide) (by decide) (by decide) (by kernel_rfl);replace G:vs 10=.bool ok:=G;clear f;simp only[Par.af,G];go_simp;all_goals exact⟨rfl,zb _ _⟩
 intro vs w' g F Z a i7 I;simp only[cw,yq];have d0:=Z 0 (by decide) (by decide) (by decide);replace d0:vs 0=.pointer (some ⟨d,0,none⟩):=d0;have d1:=Z 1 (by decide) (by decide) (by decide);replace d1:vs 1=.string x:=d1;have d2:=Z 2 (by decide) (by decide) (by decide);replace d2:vs 2=.pointer (some ⟨tb,0,none⟩):=d2;have d3:=Z 3 (by decide) (by decide) (by decide);replace d3:vs 3=.int .i64 id:=d3;have d4:=Z 4 (by decide) (by decide) (by decide);replace d4:vs 4=(.slice (some ⟨bp,A,none⟩) n a5):=d4;have d5:=Z 5 (by decide) (by decide) (by decide);replace d5:vs 5=.pointer (some ⟨bp,A,none⟩):=d5;have d6:=Z 6 (by decide) (by decide) (by decide);replace d6:vs 6=.string y0:=d6;have d7:=Z 7 (by decide) (by decide) (by decide);replace d7:vs 7=.tuple #[.agg #[.int .i64 o.1,.int .i64 o.2.1,.string o.2.2],.bool ok]:=d7;have Q:=Z 8 (by decide) (by decide) (by decide);replace Q:vs 8=.tuple #[.agg #[.int .i64 o.1,.int .i64 o.2.1,.string o.2.2],.bool ok]:=Q;have d9:=Z 9 (by decide) (by decide) (by decide);replace d9:vs 9=.agg #[.int .i64 o.1,.int .i64 o.2.1,.string o.2.2]:=d9;have G:=Z 10 (by decide) (by decide) (by decide);replace G:vs 10=.bool ok:=G;have b7:=Z 13 (by decide) (by decide) (by decide);replace b7:vs 13=.bool ok:=b7;clear Z;rw[d9]at I;simp only[a,d0,d1,d2,d3,d4,d5,d6,d7,Q,d9,G,b7];clear a d0 d1 d2 d3 d4 d5 d6 d7 Q d9 G b7;have g5:w'.heap[B]?=some (.cells #[.int .i64 0,.int .i64 0,.string e0] 32):=aE F g4.out;have H5:=aa (aB H3.out F);have c7:=aa g5;obtain⟨w5,rfl⟩:∃x,x=w':=⟨_,rfl⟩;clear F I i7 g5
 have g6:Hid (∀(w wz:World) (a b c:Value),Below W.heap.size W w->w.heap[B]?=some (.cells #[.int .i64 0,.int .i64 0,.string e0] 32)->((w.setCell ⟨B,0,none⟩ a).setCell ⟨B,1,none⟩ b).setCell ⟨B,2,none⟩ c=wz ->
   wz.cell? ⟨B,0,none⟩=some a/\wz.cell? ⟨B,1,none⟩=some b/\wz.cell? ⟨B,2,none⟩=some c/\Below W.heap.size W wz):=aa (fun w wz a b c hb I e=>by
  subst e;have h3:=jT I a b c;exact⟨aA h3 0,aA h3 1,aA h3 2,bL hb (xy HW.2.1) _ _ _⟩)
 have a8:Hid (∀(w:World),w.heap[B]?=some (.cells #[.int .i64 0,.int .i64 0,.string e0] 32)->B<w.heap.size/\w.cell? ⟨B,0,none⟩=some (.int .i64 0)/\w.cell? ⟨B,1,none⟩=some (.int .i64 0)/\w.cell? ⟨B,2,none⟩=some (.string e0)/\∀i,w.frozen? ⟨B,i,none⟩=false):=aa (fun w I =>
  ⟨aC I,aA I 0,aA I 1,aA I 2,fun i=>zo w B i _ _ I⟩)
 cases ok with
 | false =>
  obtain⟨zl,z0,z1,z2,zf⟩:=a8.out _ c7.out;obtain rfl:res=(z3,false):=a7.out.symm.trans (HV.out _ rfl);go_wp2_with fail;generalize c8:((World.setCell _ _ _).setCell _ _).setCell _ _=wz;obtain⟨y0,y1,y2,e1⟩:=g6.out _ _ _ _ _ H5.out c7.out c8;refine ya (v:=.tuple #[.agg #[.int .i64 0,.int .i64 0,.string e0],.bool false]) (by simp[results,results99,go_sem,y0,y1,y2]) rfl ?_;exact⟨rfl,e1⟩
 | true =>
  have a9:(oq ts (rowsOf st) x id (p.drop 0),true)=res:=(HV.out _ rfl).symm.trans a7.out;have i8:=aa a9;clear a9 HV a7;obtain⟨k,rfl⟩:∃k,n=k+1:=⟨n-1,by omega⟩;have i9:((k:Int)+1)-1=(k:Int):=(by omega);go_wp2_with fail;go_loopg [1,2,57] (k+1) (fun gh xv iv jv w=>∃(j:Nat) (X:ByteArray) (ii:Int),jv=.int .i64 (j:Int)/\xv=.string X/\iv=.int .i64 ii/\j<=k/\k+1<=j+gh/\(pcol ts X (p.drop j)).2.2=0/\dg (jb ts (rowsOf st) X) ii=true/\kj ii/\(oq ts (rowsOf st) X ii (p.drop j),true)=res/\Below W.heap.size W w/\w.heap[B]?=some (.cells #[.int .i64 0,.int .i64 0,.string e0] 32))
  case atStart=>exact⟨0,x,id,rfl,rfl,rfl,zh _,by omega,HF.2.2.2.2.2.2.2.2.1,g1.2,HF.2.2.2.1,i8.out,H5.out,c7.out⟩
  case round =>
   obtain⟨j,X,ii,rfl,rfl,rfl,hj,hg,e2,b0,e3,L,hB,hZ⟩:=hrel;have HN:=aa hn;have b1:j<p.length:=(by omega);obtain⟨M,U⟩:=D5 b1 e2;obtain⟨b8,H⟩:=(HD.out W (zb _ _)).get HF.2.2.1 M;obtain⟨y,hy⟩:=ag (p[j]);rw[hy]at M H;obtain⟨u,hu⟩:=ag (cellP ts (rowsOf st) X ii y);have HY:=aa hy
   have e4:Hid (∀w,Below W.heap.size W w->(Calls prog 62 #[.pointer (some ⟨d,0,none⟩),.string X] w fun e w'=>e=.returned (.pointer (some ⟨b8,0,none⟩))/\w'=w)/\Calls prog 132 #[.pointer (some ⟨b8,0,none⟩),.int .i64 ii,.string y] w fun e w'=>e=.returned (.tuple #[.agg #[.int .i64 u.1,.int .i64 u.2.1,.string u.2.2],.bool true])/\Below w.heap.size w w'):=aa (fun w Y=>by
    have hg:=(H w Y).2 ii e3;rw[hu,b0]at hg;exact⟨(H w Y).1,hg⟩)
   clear H;by_cases k2:j<k
   ·have k3:(j:Int)<(k:Int):=(by omega);have g7:=S.out wr hB j b1;rw[hy]at g7;obtain⟨a3,j0⟩:=g7;obtain⟨k4,c1⟩:=(HD.out wr hB).sp;have b9:=tQ (x:=X) (c:=y) c1;obtain⟨c2,e5⟩:=ag (ss (eo (oe (be ts X)).cols y));have g8:c2.tgt=pu ts X y:=(by rw[<-e5];rfl);have g9:dr (oe (be ts X)).cols y=true:=M;rw[e5,g9]at b9;obtain⟨b2,b3,b4,E⟩:=c2;rw[show fx ⟨b2,b3,b4,E⟩=.agg #[.string b2,.int .i64 b3,.bool b4,.string E]from rfl]at b9;have N:E=pu ts X y:=g8;have e6:=U (by omega);rw[hy,<-N]at e6;have P:=(fun w(hb:Below W.heap.size W w)=>iK (HD.out w hb) HF.1 HF.2.1 HF.2.2.1 E u);obtain⟨rr,b5⟩:=ag (bg ts (rowsOf st) E u);rw[b5]at P
    have h0:rr=none->(z3,true)=res:=fun e=>by
     rw[<-L,GP b1 (by omega) (by rw[hy,hu,<-N,b5];exact e)]
    have h4:∀i,rr=some i->(oq ts (rowsOf st) E i (p.drop (j+1)),true)=res/\dg (jb ts (rowsOf st) E) i=true/\kj i:=fun i e=>by
     have hm:=xQ (b5.trans e);refine⟨?_,hm,(HD.out wr hB).f64 hm⟩;rw[<-L,FV b1 (by omega) (by rw[hy,hu,<-N,b5];exact e),hy,<-N]
    have e7:=aa (ab h0 (ab h4 e6));have j1:=aa P;have a0:=aa (ab hB hZ);clear e2 b0 e3 L hB hZ U M hy hu c1 e5 g9 g8 N e6 P b5 h0 h4;go_upto_region 12 with (go_at_call 133;(with_reducible refine b9.mono ?_);rintro e w6⟨rfl,h5⟩;have h6:=aD w6 (.cells #[.string b2,.int .i64 b3,.bool b4,.string E] 95);have k7:=z7 w6 (.cells #[.string b2,.int .i64 b3,.bool b4,.string E] 95);have H7:=aa (ab (aB h5 h6) k7);clear b9 h5 h6 k7);obtain⟨w7,e8⟩:=ag (w6.alloc (.cells #[.string b2,.int .i64 b3,.bool b4,.string E] 95));obtain⟨C2,e9⟩:=ag w6.heap.size;rw[e8,e9]at H7;rw[e8,e9];clear e8 e9;have f0:=aB a0.1 H7.1;obtain⟨h7,h8⟩:=e4.out w7 f0;clear a3 j0
    go_upto_region 13 with (first|(go_at_call 62;(with_reducible refine h7.mono ?_);rintro e w8⟨rfl,Y⟩;subst w8;clear h7)|(go_at_call 132;(with_reducible refine h8.mono ?_);rintro e w8⟨rfl,h9⟩;have i0:=aD w8 (.cells #[.int .i64 u.1,.int .i64 u.2.1,.string u.2.2] 32);have k9:=z7 w8 (.cells #[.int .i64 u.1,.int .i64 u.2.1,.string u.2.2] 32);have H9:=aa (ab (aB h9 i0) k9);clear h8 h9 i0 k9))
    obtain⟨w9,f1⟩:=ag (w8.alloc (.cells #[.int .i64 u.1,.int .i64 u.2.1,.string u.2.2] 32));obtain⟨C3,f2⟩:=ag w8.heap.size;rw[f1,f2]at H9;rw[f1,f2];clear f1 f2;have f3:=aB f0 H9.1;have m2:=aE H9.1 H7.2;have m3:=H9.2;have z3:=aA m2 3;have zl:=aC m2;have q0:=aA m3 0;have q1:=aA m3 1;have q2:=aA m3 2;have ql:=aC m3;have P:=j1.out w9 f3;have f4:=aa (ab f3 m2);clear f3 m2 m3 f0;cases rr with
    | none =>
     have j2:=aa (e7.1 rfl);go_upto_region 15 with (go_at_call 100;(with_reducible refine P.mono ?_);rintro e j3⟨rfl,t⟩;have a1:=aa (ab (aB f4.1 t) (aE (aB H7.1 (aB H9.1 t)) a0.2));clear P t);clear z3 zl q0 q1 q2 ql;obtain⟨zl,z0,z1,z2,zf⟩:=a8.out _ a1.2;have f5:=j2.out;go_wp2_with fail;generalize c8:((World.setCell _ _ _).setCell _ _).setCell _ _=wz;obtain⟨y0,y1,y2,e1⟩:=g6.out _ _ _ _ _ a1.1 a1.2 c8;refine ya (v:=.tuple #[.agg #[.int .i64 0,.int .i64 0,.string e0],.bool true]) (by simp[results,results99,go_sem,y0,y1,y2]) rfl ?_;rw[<-f5];exact⟨rfl,e1⟩
    | some i =>
     obtain⟨v1,v2,v3⟩:=e7.2.1 i rfl;have c0:=aa (ab v1 (ab v2 (ab v3 e7.2.2)));clear v1 v2 v3;go_upto_region 16 with (go_at_call 100;(with_reducible refine P.mono ?_);rintro e j3⟨rfl,t⟩;have a1:=aa (ab (aB f4.1 t) (aE (aB H7.1 (aB H9.1 t)) a0.2));have m4:=aE t f4.2;clear P t);clear z3 zl q0 q1 q2 ql;have z3:=aA m4 3;have zl:=aC m4;clear m4;go_wp2_with fail;go_roundg (k-j)
     case measure=>omega
     case rel=>exact⟨j+1,E,i,rfl,rfl,rfl,by omega,by omega,c0.2.2.2,c0.2.1,c0.2.2.1,c0.1,a1.1,a1.2⟩
   ·obtain rfl:j=k:=(by omega);have i1:(u,true)=res:=(by rw[<-L,Lh b1 (by omega),hy,hu]);have a0:=aa (ab hB hZ);have j4:=aa i1;clear e2 b0 e3 L hB hZ U M hy hu i1;have k5:(j:Int)<(j:Int)+1:=(by omega);go_upto_region 18 with fail;refine Par.ay 13 (JV W B 11 (fun j5=>[.pointer (some ⟨d,0,none⟩),.string X,.pointer (some ⟨b8,0,none⟩),.int .i64 ii,.slice (some ⟨bp,A,none⟩) (j+1) a5,.int .i64 (j:Int),.pointer (some ⟨bp,A+j,none⟩),.string y,.tuple #[.agg #[.int .i64 u.1,.int .i64 u.2.1,.string u.2.2],.bool true],.agg #[.int .i64 u.1,.int .i64 u.2.1,.string u.2.2],.bool true,undef,.bool true].getD j5 undef) u) ?AL ?hmL ?hBL ?hAL ?hJL ?hopL ?hTL
    case hmL=>kernel_rfl
    case hBL=>kernel_rfl
    case hAL =>
     intro vs;simp only[Par.am,Par.ai,Act.put,cy,db,bt,cp,dc,da,bu];rfl
    case hopL =>
     simp only[ce,ze,Par.br,yu];and_intros<;>intro l vs w m hl f s
     ·have z:=aa m;clear m f s;simp only[Par.af];go_simp;all_goals exact z.out.up 0 (by decide)
     ·have z:=aa m;clear m f s;simp only[Par.af];go_simp;all_goals exact z.out.up 1 (by decide)
     ·have z:=aa m;have d0:vs 0=.pointer (some ⟨d,0,none⟩):=m.ev 0 (by decide) (f 0 (by kernel_rfl));have d1:vs 1=.string X:=m.ev 1 (by decide) (f 1 (by kernel_rfl));have hc:=(e4.out w m.bel).1;clear m f s;simp only[Par.af,d0,d1];go_simp;refine hc.mono ?_;rintro e y2⟨rfl,Y⟩;exact⟨_,rfl,z.out.call (Y▸zb _ _) 2 (by decide)⟩
     ·have z:=aa m;clear m f s;simp only[Par.af];go_simp;all_goals exact z.out.up 3 (by decide)
     ·have z:=aa m;clear m f s;simp only[Par.af];go_simp;all_goals exact z.out.up 4 (by decide)
     ·have z:=aa m;clear m f s;simp only[Par.af];go_simp;all_goals exact z.out.up 5 (by decide)
     ·have z:=aa m;have d4:vs 4=.slice (some ⟨bp,A,none⟩) (j+1) a5:=m.ev 4 (by decide) (f 4 (by kernel_rfl));have d5:vs 5=.int .i64 (j:Int):=m.ev 5 (by decide) (f 5 (by kernel_rfl));clear m f s;simp only[Par.af,d4,d5];go_simp;all_goals exact z.out.up 6 (by decide)
     ·have z:=aa m;have d6:vs 6=.pointer (some ⟨bp,A+j,none⟩):=m.ev 6 (by decide) (f 6 (by kernel_rfl));have k:=S.out w m.bel j (by rw[HN.out];exact uf j);rw[HY.out]at k;have k0:=k.1;have k1:=k.2;clear k;clear m f s;simp only[Par.af,d6];go_simp;all_goals exact z.out.up 7 (by decide)
     ·have z:=aa m;have d2:vs 2=.pointer (some ⟨b8,0,none⟩):=m.ev 2 (by decide) (f 2 (by kernel_rfl));have d3:vs 3=.int .i64 ii:=m.ev 3 (by decide) (f 3 (by kernel_rfl));have d7:vs 7=.string y:=m.ev 7 (by decide) (f 7 (by kernel_rfl));have hc:=(e4.out w m.bel).2;clear m f s;simp only[Par.af,d2,d3,d7];go_simp;refine hc.mono ?_;rintro e y2⟨rfl,hb⟩;exact⟨_,rfl,z.out.call hb 8 (by decide)⟩
     ·have z:=aa m;have Q:vs 8=.tuple #[.agg #[.int .i64 u.1,.int .i64 u.2.1,.string u.2.2],.bool true]:=m.ev 8 (by decide) (f 8 (by kernel_rfl));clear m f s;simp only[Par.af,Q];go_simp;all_goals exact z.out.up 9 (by decide)
     ·have z:=aa m;have Q:vs 8=.tuple #[.agg #[.int .i64 u.1,.int .i64 u.2.1,.string u.2.2],.bool true]:=m.ev 8 (by decide) (f 8 (by kernel_rfl));clear m f s;simp only[Par.af,Q];go_simp;all_goals exact z.out.up 10 (by decide)
     ·have z:=aa m;have d9:vs 9=.agg #[.int .i64 u.1,.int .i64 u.2.1,.string u.2.2]:=m.ev 9 (by decide) (f 9 (by kernel_rfl));have yz:=m.box.1;have yf:=m.box.2.1;obtain⟨v0,k6⟩:=m.box.2.2.1;obtain⟨v1,k8⟩:=m.box.2.2.2.1;obtain⟨v2,l0⟩:=m.box.2.2.2.2;clear m f s;simp only[Par.af,d9];go_simp;all_goals exact z.out.store (xy HW.2.1) _
     ·have z:=aa m;have G:vs 10=.bool true:=m.ev 10 (by decide) (f 10 (by kernel_rfl));clear m f s;simp only[Par.af,G];go_simp;all_goals exact z.out.up 12 (by decide)
    case hJL =>
     intro vs;exact⟨aB a0.1 (aF wr),fun _ _ h=>(by cases h),_,_,_,aE (aF wr) a0.2,fun h=>(by cases h)⟩
    case hTL =>
     intro l vs w' hl m;simp only[cw,yq];obtain⟨x0,x1,x2,hx,i2⟩:=m.own;obtain⟨rfl,rfl,rfl⟩:=i2 (hl 11 (by decide));have j6:vs 12=.bool true:=m.ev 12 (by decide) (hl 12 (by decide));simp only[j6];have c4:=m.bel;have y0:=aA hx 0;have y1:=aA hx 1;have y2:=aA hx 2;have HE:=aa c4;have f5:=j4.out;clear m hl hx i2 c4;go_wp2_with fail;refine ya (v:=.tuple #[.agg #[.int .i64 u.1,.int .i64 u.2.1,.string u.2.2],.bool true]) (by simp[results,results99,go_sem,y0,y1,y2]) rfl ?_;rw[<-f5];exact⟨rfl,HE.out⟩
