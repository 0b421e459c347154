import Derived.Test.YtkchgbjoeggdbaaGreatZn34
set_option maxHeartbeats 8000000
set_option maxRecDepth 100000
namespace Go.Proofs.YtkchgbjoeggdbaaGreat
open Go.Proofs.Tryz
open Go Go.RowKit Go.Proofs Co Co.S
structure su (W:World) (d2:Nat) (ts:List T) (st:List DT) (r:Nat) (left:Lit->Bool) (cnt:Nat) (mv:Value) (f:ByteArray->Option Nat) (n m:Nat) (O:Nat->Nat) (w:World):Prop where
 sch:Sch mv w d2 ts
 pm:sf w mv f n m
 few:m+cnt<=ts.length
 vis:∀j (hj:j<ts.length),(f ts[j].nm=none↔left (sL ts[j].nm)=true)
 no:∀x,fe ts x=false->f x=none
 tab:∀j (hj:j<ts.length) (hj':j<st.length) p,f ts[j].nm=some p->∃lab,Tb w p ts[j] st[j].2.1 st[j].2.2 lab/\∀q,lab q≠0->O q=j+2
 od:O d2=1
 om:∀b,mblk mv=some b->O b=1
 low:∀q,O q≠0->W.heap.size<=q/\q<w.heap.size/\q≠r
 bel:Below W.heap.size W w
theorem DC{w w':World}{P:Program}{k:TypeId}{H:Type}{R:Value->Option (DataW H×List MemPlace)}{b r n:Nat}{D:DataW H}{left:Lit->Bool}{cnt:Nat}(h:w.ranges P k R b r n D left cnt)(hg:w.grownBy w' (some r)):Tn (fun q=>q=r) w w':=by
 obtain⟨o,c,d,f,c0,_,_,_,_,g,_⟩:=h;refine⟨⟨hg.os,hg.tape,hg.output,hg.size,fun q a i=>hg.block q a (fun e=>i (by cases e;rfl))⟩,fun q j e m a _=>?_⟩;refine(hg.block q (aB a) (fun l=>?_)).trans a;cases l;rw[g]at a;cases a
theorem wE{w:World}{P:Program}{k:TypeId}{H:Type}{R:Value->Option (DataW H×List MemPlace)}{b r n:Nat}{D:DataW H}{left:Lit->Bool}{cnt:Nat}(h:w.ranges P k R b r n D left cnt):cnt<=n:=by
 obtain⟨e,c,d,a,c0,_,_,f,_,_,_,g,_⟩:=h;have:(leftOf e a).size<=e.size:=(by unfold leftOf;exact Array.size_filter_le);omega
theorem Dk{w w':World}{P:Program}{k:TypeId}{H:Type}{R:Value->Option (DataW H×List MemPlace)}{b r n:Nat}{D:DataW H}{left:Lit->Bool}{cnt:Nat}(h:w.ranges P k R b r n D left cnt)(hb:w'.heap[b]?=w.heap[b]?)(hr:w'.heap[r]?=w.heap[r]?):w'.ranges P k R b r n D left cnt:=by
 obtain⟨e,a,c,d,c0,f,g,i,j,l,m⟩:=h;exact⟨e,a,c,d,c0,hb.trans f,g,i,j,hr.trans l,m⟩
theorem FI(x y:ByteArray):(sL x).sameKey (sL y)=decide (x=y):=by
 by_cases h:x=y
 ·subst h;rw[yy rfl];exact WideAt.sameKey_self (kX x)
 rw[yp h];cases a:(sL x).sameKey (sL y)with
 | false=>rfl
 | true=>exact absurd (vK ((WideAt.sameKey_iff (kX y)).1 a)) h
section
variable{W w w' w1 w2 w3:World}{d2 r cnt cnt' n m:Nat}{ts:List T}{st:List DT}{left:Lit->Bool}{mv:Value}{f:ByteArray->Option Nat}{O:Nat->Nat}{S:Nat->Prop}
theorem su.tn(h:su W d2 ts st r left cnt mv f n m O w)(hk:Tn S w w')(hs:∀q,S q->O q=0/\W.heap.size<=q):su W d2 ts st r left cnt mv f n m O w':=by
 refine⟨h.sch.tn hk (fun a=>by have:=(hs d2 a).1;rw[h.od]at this;cases this),h.pm.of (fun b k=>hk.chg.block b (h.pm.lt b k) (fun a=>by have:=(hs b a).1;rw[h.om b k]at this;cases this)),h.few,h.vis,h.no,fun j l e p o=>?_,h.od,h.om,fun q c=>?_,h.bel.trans (hk.chg.below h.bel.size (fun q c a=>?_))⟩
 ·obtain⟨g,i,d⟩:=h.tab j l e p o;exact⟨g,i.tn hk (fun q c=>Classical.byContradiction fun s=>by have:=d q s;rw[(hs q c).1]at this;omega),d⟩
 ·obtain⟨i,d,t⟩:=h.low q c;exact⟨i,z9 d hk.size,t⟩
 have:=(hs q a).2;omega
theorem su.later(h:su W d2 ts st r left cnt mv f n m O w)(hb:Below w.heap.size w w'):su W d2 ts st r left cnt mv f n m O w':=h.tn (S:=fun _=>False) (Tn.of_below hb) (fun _ h=>h.elim)
theorem su.step(h:su W d2 ts st r left cnt mv f n m O w1)(hr:r<w1.heap.size){j:Nat}(hj:j<ts.length)(hj':j<st.length)(hnd:∀a b (ha:a<ts.length) (hb:b<ts.length),ts[a].nm=ts[b].nm->a=b)(hb12:Below w1.heap.size w1 w2){ob:Nat}{lab:Nat->Nat}(hT:Tb w2 ob ts[j] st[j].2.1 st[j].2.2 lab)(hlo:∀b,lab b≠0->w1.heap.size<=b)(hP:Bg w2 d2 mv ts f n m ts[j].nm ob w3)(hcnt:cnt'<cnt):∃B P Q R S,su W d2 ts st r (fun z=>left z&&!z.sameKey (sL ts[j].nm)) cnt' B P Q R S w3/\w3.heap[r]?=w1.heap[r]?/\∀b,b<W.heap.size->w3.heap[b]?=w1.heap[b]?:=by
 have E:=h.later hb12;obtain⟨b,U,I,J,V⟩:=hP;have hz:=hb12.size;have X:=h.bel.size
 have g:Tn (fun q=>q=d2∨mblk mv=some q) w2 w3:=Tn.bt V (fun q _ c=>by
  rcases c with rfl|c
  ·obtain⟨_,xs,rest,Y,_⟩:=E.sch;exact .inl ⟨_,66,Y,rfl⟩
  rcases E.pm with ⟨rfl,_⟩ | ⟨Z,rfl,o⟩
  ·cases c
  cases c;exact .inr o.isMap)
 have a0:=g.size
 have i:∀q,(q=d2∨mblk mv=some q)->O q=1:=fun q c=>by
  rcases c with rfl|c
  ·exact h.od
  exact h.om q c
 have u:b<w3.heap.size:=I.lt
 have F:b<w1.heap.size->O b=1:=fun d=>by
  rcases J with s|s
  ·exact h.om b s
  omega
 have L:∀q,q<w1.heap.size->(if q<w1.heap.size then O q else if q=b then 1 else if lab q≠0 then j+2 else 0)=O q:=(fun q c=>zw c);have l:∀q,q<w1.heap.size->O q≠1->w3.heap[q]?=w1.heap[q]?:=(fun q c v=>(g.chg.block q (by omega) (fun G=>v (i q G))).trans (hb12.block q c));refine⟨.map (some b),uq f ts[j].nm ob,n+1,m+1,fun q=>if q<w1.heap.size then O q else if q=b then 1 else if lab q≠0 then j+2 else 0,⟨U,.inr ⟨b,rfl,I⟩,by have:=h.few;omega,fun k A=>?_,fun x M=>?_,fun k A H p w=>?_,(L d2 (h.low d2 (by rw[h.od];decide)).2.1).trans h.od,fun Z o=>?_,fun q c=>?_,?_⟩,l r hr (fun e=>(h.low r (by rw[e];decide)).2.2 rfl),fun q c=>l q (by omega) (fun e=>by have:=(h.low q (by rw[e];decide)).1;omega)⟩
 ·unfold uq;rw[FI];by_cases e:ts[k].nm=ts[j].nm
  ·rw[zw e,yy e];simp
  rw[zu e,yp e,h.vis k A];simp
 ·unfold uq;rw[zu (fun e=>lE M hj e.symm)];exact h.no x M
 ·unfold uq at w;by_cases e:ts[k].nm=ts[j].nm
  ·obtain rfl:=hnd k j A hj e;rw[zw rfl]at w;cases w;refine⟨lab,hT.tn g (fun q c=>Classical.byContradiction fun v=>?_),fun q c=>?_⟩
   ·have t:=hlo q v;have y:=(h.low q (by rw[i q c];decide)).2.1;omega
   have t:=hlo q c;show(if q<w1.heap.size then O q else if q=b then 1 else if lab q≠0 then k+2 else 0)=k+2;rw[zu (by omega),zu (fun e=>?_),zw c];have y:=hT.lt q c;rcases J with s|s
   ·have:=(h.low b (by rw[h.om b s];decide)).2.1;omega
   omega
  rw[zu e]at w;obtain⟨lk,t,y⟩:=h.tab k A H p w;exact⟨lk,(t.later hb12).tn g (fun q c=>Classical.byContradiction fun v=>by have s:=y q v;have E:=i q c;omega),fun q c=>(L q (t.lt q c)).trans (y q c)⟩
 ·cases o;show(if b<w1.heap.size then O b else if b=b then 1 else _)=1;by_cases d:b<w1.heap.size
  ·rw[zw d];exact F d
  rw[zu d,zw rfl]
 ·have c:(if q<w1.heap.size then O q else if q=b then 1 else if lab q≠0 then j+2 else 0)≠0:=c;by_cases d:q<w1.heap.size
  ·rw[zw d]at c;obtain⟨t,y,a3⟩:=h.low q c;exact⟨t,by omega,a3⟩
  refine⟨by omega,?_,fun e=>by omega⟩;rw[zu d]at c;by_cases e:q=b
  ·rw[e];exact u
  rw[zu e]at c;by_cases N:lab q≠0
  ·have:=hT.lt q N;omega
  rw[zu N]at c;exact absurd rfl c
 exact(aC h.bel hb12).trans (g.chg.below (by omega) (fun q c G=>by
  have:=(h.low q (by rw[i q G];decide)).1
  omega))
theorem su.done(h:su W d2 ts st r left cnt mv f n m O w)(hall:∀z,left z=false)(hlen:st.length=ts.length)(hnd:∀a b (ha:a<ts.length) (hb:b<ts.length),ts[a].nm=ts[b].nm->a=b):∃d,Dd w d2 ts d O/\d.map (·.2)=st.map (·.2)/\(∀q,O q≠0->W.heap.size<=q):=by
 have v:∀j (c:j<ts.length),∃p,f ts[j].nm=some p:=fun j c=>by
  cases x:f ts[j].nm with
  | none=>rw[h.vis j c,hall]at x;cases x
  | some p=>exact⟨p,rfl⟩
 have g:(List.zipWith (fun(t:T) (s:DT)=>((f t.nm).getD 0,s.2)) ts st).length=ts.length:=(by rw[List.length_zipWith,hlen,Nat.min_self]);refine⟨List.zipWith (fun(t:T) (s:DT)=>((f t.nm).getD 0,s.2)) ts st,⟨⟨mv,f,n,h.sch,?_,fun j c o=>?_,h.no,h.om⟩,g,hnd,h.od,fun j c o=>?_,fun q u=>(h.low q u).2.1⟩,?_,fun q u=>(h.low q u).1⟩
 ·have:=h.few
  rcases h.pm with ⟨e,k,y⟩ | ⟨b,e,k⟩
  ·exact .inl ⟨e,k,y⟩
  exact .inr ⟨b,e,k.mono (by omega)⟩
 ·rw[List.getElem_zipWith];obtain⟨p,l⟩:=v j c;rw[l];rfl
 ·rw[List.getElem_zipWith];obtain⟨p,l⟩:=v j c;rw[l];exact h.tab j c (by omega) p l
 apply List.ext_getElem
 ·rw[yd,yd,g,hlen]
 intro i k y;rw[yw,yw,List.getElem_zipWith]
end
end Go.Proofs.YtkchgbjoeggdbaaGreat
namespace Go.Proofs.YtkchgbjoeggdbaaGreat
open Go.Proofs.Tryz
open Go Go.RowKit Go.Proofs Co Co.S Go.Maps Go.WideMaps
theorem nW{ops:Array Oper}{rest:List Oper}{o:Oper}{a:Act}{w:World}{Q:Exit->Act->World->Prop}{l:List Value}{n mv:Value}{d:Nat}(hgd:o.guard=none)(x:Operand)(ho:o.op=.load 63 x)(hx:a.eval x=(.pointer (some ⟨d,0,none⟩)))(hl:l.length=32)(h:w.heap[d]?=some (.cells (l++[n,mv]).toArray 66))(hk:wpList prog ops Q rest (a.put o.dst (.agg (l++[n]).toArray)) w):wpList prog ops Q (o::rest) a w:=by
 have g:(l++[n]).length=33:=by rw[y6,hl];rfl
 have i:(loadCells ⟨d,0,none⟩ 33).run prog w=.ok (l++[n]).toArray w:=by
  have:=run_loadCells_list (P:=prog) w ⟨d,0,none⟩ (l++[n]) (fun j v f=>by
   have b:(⟨d,0,none⟩:Addr).add j=⟨d,j,none⟩:=(by unfold Addr.add;split <;> simp_all);rw[b]
   have:=aA h j
   have k:j<(l++[n]).length:=(List.getElem?_eq_some_iff.1 f).1
   have e:(l++[n,mv])[j]?=some v:=by
    rw[show l++[n,mv]=(l++[n])++[mv]by simp,xu k];exact f
   simp only[eh]at this
   first|exact this.trans e | (rw[e]at this;exact this))
  rw[g]at this;exact this
 have f:(loadVar 63 ⟨d,0,none⟩).run prog w=.ok (.agg (l++[n]).toArray) w:=by
  have c:(isAgg 63).run prog w=.ok true w:=(by kernel_rfl);have p:(sizeOf 63).run prog w=.ok 33 w:=(by kernel_rfl);simp[loadVar,Sem.run_bind,c,i]
 refine wpList_plain hgd fun _ m=>?_
 unfold Oper.wp execOp;simp only[ho,hx,Instr.loadAt,Instr.sureAddr,Sem.run_bind,Sem.run_pure,Result.andThen_ok,f];exact m _ _ hk
theorem tI:∀(l:List Value) (n:Value),l.length=32->n.oneCell'=true->prog.built 66 [(0,.agg (l++[n]).toArray)]=some (l++[n,.map none]).toArray
 | [a0,a1,a2,a3,a4,a5,a6,a7,a8,a9,a10,a11,a12,a13,a14,a15,a16,a17,a18,a19,a20,a21,a22,a23,a24,a25,a26,a27,a28,a29,a30,a31],n,_,_=>by kernel_rfl
theorem kO{ops:Array Oper}{rest:List Oper}{o:Oper}{a:Act}{w:World}{Q:Exit->Act->World->Prop}{l:List Value}{n:Value}(hgd:o.guard=none)(x:Operand)(ho:o.op=.build 66 #[(0,x)])(hx:a.eval x=.agg (l++[n]).toArray)(hl:l.length=32)(hn:n.oneCell'=true)(hk:wpList prog ops Q rest (a.put o.dst (.agg (l++[n,.map none]).toArray)) w):wpList prog ops Q (o::rest) a w:=by
 refine wpList_build hgd 66 #[(0,x)] ho ?_ ?_
 ·simp only[List.map_toArray,List.map_cons,List.map_nil,hx];rw[tI l n hl hn];rfl
 simp only[List.map_toArray,List.map_cons,List.map_nil,hx];rw[tI l n hl hn];exact hk
theorem DZ{ts:List T}{st:List DT}{f:ByteArray->Option Nat}{D:DataW Unit}(hlen:st.length=ts.length)(hf:∀j (h:j<ts.length) (h':j<st.length),f ts[j].nm=some st[j].1)(hno:∀x,fe ts x=false->f x=none)(hhas:∀x,Maps.has D (sL x)=(f x).isSome)(hat:∀x p,f x=some p->∀z,D.atKey (sL x) z=.lit (.int .i64 (p:Int))){x:ByteArray}{c:Option Nat}{kl:Lit}{y:DataW Unit×List MemPlace}(hk:keyOf prog 9 (.string x)=some kl)(hv:mz (rk c)=some y)(ha:∀r,D.atKey kl r=y.1):∃(j:Nat) (_:j<ts.length) (_:j<st.length),ts[j].nm=x/\c=some st[j].1/\kl=sL x/\x.size<=maxLen:=by
 obtain⟨s,u,i,v⟩:=string_of_keyOf underlying9 hk;cases u;have i:kl=sL x:=i;subst i;cases a:f x with
 | none =>
  have l:=hhas x;rw[a]at l;have b:=ha (.lit (.bool true));have d:=ha (.lit (.bool false));rw[Maps.atKey_of_not_has l]at b d;rw[<-b]at d;cases d
 | some p =>
  have b:=ha (.lit (.bool true));rw[hat x p a]at b;obtain⟨B,E⟩:=y;dsimp only at b;subst b;have d:=xT hv
  have w:c=some p:=by
   cases c with
   | none=>cases d
   | some q=>cases d;rfl
  have g:fe ts x=true:=by
   cases A:fe ts x with
   | true=>rfl
   | false=>rw[hno x A]at a;cases a
  rw[cU,Option.isSome_iff_exists]at g;obtain⟨t,g⟩:=g;obtain⟨j,k,m,n⟩:=Ge g;have e:j<st.length:=(by rw[hlen];exact k);have o:=hf j k e;rw[m,n,a]at o;exact⟨j,k,e,by rw[m];exact n,w.trans o,rfl,v⟩
theorem Gl:∀key a,keyOf prog 9 key=some a->∃x,key=.string x:=fun key a h=>by
 obtain⟨s,b,_⟩:=string_of_keyOf underlying9 h;exact⟨s,b⟩
theorem Dn:∀v y,mz v=some y->∃c,v=rk c:=fun v y h=>by
 unfold mz at h;split at h
 ·exact⟨none,rfl⟩
 ·rename_i a;split at h
  ·rename_i e;obtain⟨b,d,spot⟩:=a;obtain⟨rfl,rfl⟩:d=0/\spot=none:=e;exact⟨some b,rfl⟩
  ·cases h
 ·cases h
theorem oX{W:World}{d:Nat}{ts:List T}{st:List DT}{O:Nat->Nat}(h:Dd W d ts st O)(hfew:bs ts)(hsz:Short ts)(hkd:∀t∈ts,∀c∈t.cols,c.kd=1∨c.kd=2)(hcols:∀t∈ts,0<t.cols.length)(hnx:∀s∈st,s.2.1<=590)(h0:0<ts.length):Calls prog 128 #[.pointer (some ⟨d,0,none⟩)] W fun e w'=>∃d2 b5 O2,e=.returned (.pointer (some ⟨d2,0,none⟩))/\Dd w' d2 ts b5 O2/\b5.map (·.2)=st.map (·.2)/\(∀q,O2 q≠0->W.heap.size<=q)/\Below W.heap.size W w':=by
 obtain⟨mv,f,n,k1,k2,k3,k4,k5⟩:=h.own;have b6:0<st.length:=(by rw[h.len];exact h0);rcases k2 with ⟨_,_,c9⟩ | ⟨E,rfl,a7⟩
 ·have:=k3 0 h0 b6
  rw[c9]at this;cases this
 have a8:=k1.mapc;have d0:=a7.lt;obtain⟨h8,xs,rest,F,hl,G⟩:=k1;rw[show xs++(rest++[.int .i64 (ts.length:Int),Value.map (some E)])=(xs++rest)++[.int .i64 (ts.length:Int),Value.map (some E)]by simp]at F;have H:(xs++rest).length=32:=(by rw[y6];exact hl);obtain⟨l,a9⟩:=ae (xs++rest);rw[a9]at F H;obtain⟨tl,d1⟩:=ae ts.length;have o:=aD W (.cells (l++[.int .i64 (ts.length:Int),Value.map none]).toArray 66);have Q:=z7 W (.cells (l++[.int .i64 (ts.length:Int),Value.map none]).toArray 66);have R:=zm W (.cells (l++[.int .i64 (ts.length:Int),Value.map none]).toArray 66);obtain⟨w1,I⟩:=ae (W.alloc (.cells (l++[.int .i64 (ts.length:Int),Value.map none]).toArray 66));obtain⟨d2,b0⟩:=ae W.heap.size;rw[I]at o Q R;rw[b0]at Q R;have Y:Sch (.map none) w1 d2 ts:=⟨h8,xs,rest,by rw[show xs++(rest++[.int .i64 (ts.length:Int),Value.map none])=(xs++rest)++[.int .i64 (ts.length:Int),Value.map none]by simp,a9];exact Q,hl,G.kp (Tn.of_below (S:=fun _=>False) o).qu⟩;have Z:Mp w1 E f n ts.length:=a7.of (o.block E d0);obtain⟨D,a0,f1,J,L⟩:=Z.own;have d3:w1.cell? ⟨d,33,none⟩=some (.map (some E)):=(ze (a:=⟨d,33,none⟩) (o.block d a8.2.1)).trans a8.1;have d4:d<w1.heap.size:=(by have:=o.size;omega);have b7:Hid (∀(x:ByteArray) (c:Option Nat) (kl:Lit) (y:DataW Unit×List MemPlace),keyOf prog 9 (.string x)=some kl->mz (rk c)=some y->(∀zd,D.atKey kl zd=y.1)->∃(j:Nat) (_:j<ts.length) (_:j<st.length),ts[j].nm=x/\c=some st[j].1/\kl=sL x/\x.size<=maxLen):=aa (fun x c kl y hk hv ha=>DZ h.len k3 k4 J L hk hv ha)
 have HD:Hid (∀w,Below W.heap.size W w->∀j (M:j<ts.length) (z:j<st.length),∃U,Tb w st[j].1 ts[j] st[j].2.1 st[j].2.2 U):=aa (fun w hw j M z=>by
  obtain⟨U,a1,_⟩:=(h.later hw).tab j M z;exact⟨U,a1⟩)
 have HF:=aa (ab hfew (ab hsz (ab hkd (ab hcols (ab hnx (ab h.len h.nd))))));have HW:=aa (ab I (ab b0 (ab o (ab R (ab Y J)))));have d5:=aa k3;rw[d1]at F I;have d6:=aa I;have b8:(Value.int .i64 (tl:Int)).oneCell'=true:=rfl;clear I b0 o Q R Y a7 Z G hl a9 h hfew hkd hcols hnx h0 b6 k3 k4 k5 a8 L J;go_enter func128,ntmps128
 go_upto_region 4 with (first|(refine nW rfl (.tmp 10) rfl rfl H F ?_)|(refine kO rfl (.tmp 11) rfl rfl H b8 ?_))
 rw[d6.out,HW.2.1]
 go_wp2_with (first|(at_range;refine wpList_range_own _ rfl _ 64 rfl 9 48 zP underlying64 mz E ts.length D rfl a0 ?_;intro w2 k A d7)|go_in)
 go_frame
 obtain⟨r,hr⟩:=ae w1.heap.size;have k:w2.ranges prog 9 mz E r ts.length D (Maps.has D) (Maps.size D):=hr▸k;rw[hr];have N:=wE k;have b9:r=d2+1:=by rw[<-hr];exact HW.2.2.2.1
 have c0:su W d2 ts st r (Maps.has D) (Maps.size D) (.map none) (fun _=>none) 0 0 (fun q=>if q=d2 then 1 else 0) w2:=by
  obtain⟨_,e2,e3,e4,e5,e6⟩:=HW.out;have c1:Below w1.heap.size w1 w2:=⟨A.os,A.tape,A.output,A.size,fun i hi=>A.block i hi (by simp)⟩
  have h1:su W d2 ts st r (Maps.has D) (Maps.size D) (.map none) (fun _=>none) 0 0 (fun q=>if q=d2 then 1 else 0) w1:=⟨e5,.inl ⟨rfl,rfl,fun _=>rfl⟩,by omega,fun j M=>⟨fun _=>by
   rw[e6,d5.out j M (by rw[HF.2.2.2.2.2.1];exact M)];rfl,fun _=>rfl⟩,fun _ _=>rfl,fun _ _ _ _ hp=>(by cases hp),zw rfl,fun b hb=>(by cases hb),fun q hq=>by
    by_cases e:q=d2
    ·subst e;exact⟨by omega,by omega,by omega⟩
    exact absurd (zu e) hq,e3⟩
  exact h1.later c1
 have V:=aa (ab k (ab c0 (ab N b9)));clear k A d7 N b9 c0 a0 d3 d4 F hr;go_loopg [4] (ts.length+1) (fun gh pv w=>∃(left:Lit->Bool) (cnt:Nat) (c2:Value) (f':ByteArray->Option Nat) (n' m':Nat) (O':Nat->Nat),cnt+1<=gh/\w.ranges prog 9 mz E r ts.length D left cnt/\su W d2 ts st r left cnt c2 f' n' m' O' w)
 case atStart=>exact⟨_,_,_,_,_,_,_,by have:=V.2.2.1;omega,V.1,V.2.1⟩
 obtain⟨left,cnt,c2,f',n',m',O',hg,c3,hC⟩:=hrel;have HC:=aa (ab hC c3);have c4:O' r=0:=(Classical.byContradiction fun hn=>(hC.low r hn).2.2 rfl);have c5:W.heap.size<=r:=(by have:=V.2.2.2;have:=HW.2.1;omega);have HR:=aa (ab c4 c5);clear hC c4 c5
 go_wp2_with (first|(at_next;refine wpList_next_ranges _ rfl _ rfl 9 zP mz .string rk Gl Dn E r ts.length D left cnt rfl c3 (fun f3 d8=>?_) (fun x c kl y w3 cnt' a4 b4 hv L g v c6 d9 c7=>?_);rotate_left;(obtain⟨j,M,z,X,rfl,rfl,e1⟩:=b7.out x c kl y a4 hv L;have B:=HC.1.tn (DC HC.2 c6) (fun q(hq:q=r)=>hq▸HR.out);obtain⟨f0,c8⟩:=HD.out w3 B.bel j M z;have p:=yB c8 (HF.1 _ (z8 M)) (HF.2.2.1 _ (z8 M)) (HF.2.2.2.2.1 _ (z8 z)) (HF.2.2.2.1 _ (z8 M));simp only[show rk (some st[j].1)=(.pointer (some ⟨st[j].1,0,none⟩))from rfl]at c7 ⊢;obtain⟨f4,a5⟩:=ae (st[j].1);simp only[a5]at c7 p ⊢;have H3:=aa (ab B (ab g (ab v (ab b4 X))));clear B g v b4 X c8 a5 a4 hv L c6 d9);rotate_left)|(go_at_call 159;refine p.mono ?_;rintro e w4⟨ob,U,rfl,P,m,u⟩;have H4:=aa (ab P (ab m u));have a6:=sZ (tb:=ob) ((H3.1.later u).sch) ((H3.1.later u).pm) e1 (by rw[<-H3.2.2.2.2];exact(H3.1.vis _ _).2 (by rw[H3.2.2.2.2];exact H3.2.2.2.1)) (by have:=H3.1.few;have:=(HW.2.2.2.2.1).1;omega);clear p P m u)|(go_at_call 40;refine a6.mono ?_;rintro e w5⟨rfl,hP⟩;have HP:=aa hP;clear a6 hP))
 ·go_ret;obtain⟨e7,a1,a2,a3⟩:=HC.1.done d8 HF.2.2.2.2.2.1 HF.2.2.2.2.2.2;exact⟨d2,e7,O',rfl,a1,a2,a3,HC.1.bel⟩
 obtain⟨B,g,v,b4,X⟩:=H3.out;obtain⟨P,m,u⟩:=H4.out;have hP:=HP.out;subst X;obtain⟨e8,f2,n2,m2,O2,b1,b2,b3⟩:=B.step g.lt M z HF.2.2.2.2.2.2 u P m hP v;have e9:E<W.heap.size:=(by assumption);have HB:=aa (ab b1 (Dk g (b3 E e9) b2));clear b1 b2 b3 B g P m u hP;go_roundg cnt
 case measure=>omega
 exact⟨_,_,e8,f2,n2,m2,O2,by omega,HB.2,HB.1⟩
